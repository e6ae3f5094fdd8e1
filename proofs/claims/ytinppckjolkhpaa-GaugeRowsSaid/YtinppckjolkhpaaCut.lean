/-
  Layer 3: a whole number's last digits, cut off. Conditions: those written at each fact.
-/
import Derived.Test.YtinppckjolkhpaaFl
import Derived.Test.YtinppckjolkhpaaShelf
import Derived.Deep.QuietTactic
import Derived.BigQuiet
namespace Go.Proofs.Ytinppckjolkhpaa
open Go.RowKit Go.Shelf

theorem drewN_below {B : Nat} {a w : World} (h : Below B a w) (n : Nat) : Below B a (w.drewN n) := h.trans ⟨rfl, rfl, rfl, Nat.le_refl _, fun _ _ => rfl⟩

theorem cut_facts (x n : Nat) (hx : x < 18446744073709551616) (h1 : 1 ≤ n) (h2 : n ≤ 64) :
    ∃ q r h : Nat, r ≤ x ∧ h < 18446744073709551616 ∧ (x : Int) / 2 ^ n = q ∧ IntKind.u64.wrap ((q : Int) * 2 ^ n) = (x : Int) - r ∧ IntKind.u64.wrap (2 ^ (n - 1)) = h ∧ q < 9223372036854775808 ∧
      cutN x n = if h < r ∨ (r = h ∧ q % 2 = 1) then q + 1 else q := by
  have hP : 0 < 2 ^ n := Nat.two_pow_pos n
  have hH : 2 ^ n = 2 * 2 ^ (n - 1) := by rw [show n = (n - 1) + 1 by omega, Nat.pow_succ]; simp; omega
  have hH1 : 2 ^ (n - 1) ≤ 2 ^ 63 := Nat.pow_le_pow_right (by decide) (by omega)
  have dm := Nat.div_add_mod x (2 ^ n)
  have hq : x / 2 ^ n ≤ x / 2 := Nat.div_le_div_left (by have := Nat.pow_le_pow_right (n := 2) (by decide) h1; simpa using this) (by decide)
  have hr := Nat.mod_le x (2 ^ n)
  refine ⟨x / 2 ^ n, x % 2 ^ n, 2 ^ (n - 1), hr, by omega, by simp, ?_, ?_, by omega, ?_⟩
  · rw [IntKind.wrap_u64]
    have e : ((x / 2 ^ n : Nat) : Int) * 2 ^ n = ((2 ^ n * (x / 2 ^ n) : Nat) : Int) := by rw [Nat.mul_comm]; simp
    rw [e]
    omega
  · rw [IntKind.wrap_u64]
    have e : (2 : Int) ^ (n - 1) = ((2 ^ (n - 1) : Nat) : Int) := by simp
    rw [e]
    omega
  · rw [cutN, hH]
    split <;> split <;> omega

set_option maxRecDepth 100000 in
set_option maxHeartbeats 1000000 in
theorem cutOff_any (x n : Nat) (hx : x < 18446744073709551616) (h1 : 1 ≤ n) (w : World) : Calls Try.prog 57 #[.int .u64 x, .int .i64 n] w (Ret w (.int .u64 (cutN x n))) := by
  by_cases g : 64 < n
  · have e : cutN x n = 0 := cutN_small (by have : 2 ^ 65 ≤ 2 ^ n := Nat.pow_le_pow_right (by decide) g; omega)
    rw [e]
    clear e
    have g1 : (64 : Int) < (n : Int) := by omega
    go_enter Try.func57, Try.ntmps57
    go_wp2
    go_ret
    exact ⟨rfl, Below.refl _ _⟩
  · obtain ⟨q, r, h, hr, hh, e1, e2, e3, hq2, e4⟩ := cut_facts x n hx h1 (by omega)
    have hx0 : (x : Int) < 18446744073709551616 := by omega
    have g1 : ¬ (64 : Int) < (n : Int) := by omega
    have g2 : (1 : Int) ≤ (n : Int) := by omega
    have g4 : (0 : Int) ≤ (n : Int) - 1 := by omega
    have g5 : ((n : Int) - 1).toNat = n - 1 := by omega
    have g6 : IntKind.i64.wrap ((n : Int) - 1) = (n : Int) - 1 := by rw [IntKind.wrap_i64]; omega
    have g7 : min n 64 = n := by omega
    have g8 : min (n - 1) 64 = n - 1 := by omega
    have e5 : IntKind.u64.wrap ((x : Int) - ((x : Int) - r)) = r := by rw [IntKind.wrap_u64]; omega
    clear hx hx0 hh
    by_cases c1 : h < r
    · rw [e4, if_pos (Or.inl c1)]
      clear e4
      have c2 : (h : Int) < (r : Int) := by omega
      go_enter Try.func57, Try.ntmps57
      go_wp2
      go_quiet (fail)
      clear g7 g8 g6 g5 e1 e2 e3
      go_wp2
      go_ret
      exact ⟨rfl, drewN_below (Below.refl _ _) _⟩
    · have c2 : ¬ (h : Int) < (r : Int) := by omega
      by_cases c3 : r = h
      · subst c3
        by_cases c4 : q % 2 = 1
        · rw [e4, if_pos (Or.inr ⟨rfl, c4⟩)]
          clear e4
          have c5 : (q : Int) % 2 = 1 := by omega
          go_enter Try.func57, Try.ntmps57
          go_wp2
          go_quiet (fail)
          clear g7 g8 g6 g5 e1 e2 e3
          go_wp2
          go_ret
          exact ⟨rfl, drewN_below (Below.refl _ _) _⟩
        · rw [e4, if_neg (by omega)]
          clear e4
          have c5 : ((q : Int) % 2 == 1) = false := by simp; omega
          have c6 : ¬ ((q : Int) % 2 = 1) := by omega
          go_enter Try.func57, Try.ntmps57
          go_wp2
          go_quiet (fail)
          clear g7 g8 g6 g5 e1 e2 e3
          go_wp2
          go_ret
          exact ⟨rfl, drewN_below (Below.refl _ _) _⟩
      · rw [e4, if_neg (by omega)]
        clear e4
        have c5 : ((r : Int) == (h : Int)) = false := by simp; omega
        have c6 : (r == h) = false := by simp; omega
        go_enter Try.func57, Try.ntmps57
        go_wp2
        go_quiet (fail)
        clear g7 g8 g6 g5 e1 e2 e3
        go_wp2
        go_ret
        exact ⟨rfl, drewN_below (Below.refl _ _) _⟩
end Go.Proofs.Ytinppckjolkhpaa
