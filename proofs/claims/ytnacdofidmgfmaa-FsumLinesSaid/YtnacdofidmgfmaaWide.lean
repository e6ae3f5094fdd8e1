/-
  What each call of package wide answers, for all arguments. Conditions: the words of a number are of 64 bits.
-/
import Derived.Test.YtnacdofidmgfmaaChecked
import Derived.Test.YtnacdofidmgfmaaShelf
import Derived.Test.YtnacdofidmgfmaaNumB
namespace Go.Proofs.Ytnacdofidmgfmaa
open Go.RowKit Go.Shelf

theorem add64 (x y c : Int) (hx : 0 ≤ x) (hy : 0 ≤ y) (hc0 : 0 ≤ c) (hc : c ≤ 1) (w : World) : (callFunc 82 #[.int .u64 x, .int .u64 y, .int .u64 c]).run Try.prog w =
    .ok (.value (.tuple #[.int .u64 ((x + y + c) % 18446744073709551616), .int .u64 ((x + y + c) / 18446744073709551616)])) w := by
  obtain ⟨x, rfl⟩ := Int.eq_ofNat_of_zero_le hx
  obtain ⟨y, rfl⟩ := Int.eq_ofNat_of_zero_le hy
  obtain ⟨c, rfl⟩ := Int.eq_ofNat_of_zero_le hc0
  refine (Any7.bits_Add64 Try.lays25 x y c (by omega) w).trans ?_
  congr 5 <;> omega
theorem sub64 (x y b : Int) (hx : 0 ≤ x) (hy : 0 ≤ y) (hy' : y < 18446744073709551616) (hb0 : 0 ≤ b) (hb : b ≤ 1) (w : World) : (callFunc 106 #[.int .u64 x, .int .u64 y, .int .u64 b]).run Try.prog w =
    .ok (.value (.tuple #[.int .u64 ((x - y - b) % 18446744073709551616), .int .u64 (bor x (y + b))])) w := by
  obtain ⟨x, rfl⟩ := Int.eq_ofNat_of_zero_le hx
  obtain ⟨y, rfl⟩ := Int.eq_ofNat_of_zero_le hy
  obtain ⟨b, rfl⟩ := Int.eq_ofNat_of_zero_le hb0
  have e1 : (((x + 18446744073709551616 - y - b) % 18446744073709551616 : Nat) : Int) = ((x : Int) - y - b) % 18446744073709551616 := by omega
  have e2 : ((if x < y + b then 1 else 0 : Nat) : Int) = bor (x : Int) (y + b) := by unfold bor; split <;> split <;> omega
  rw [← e1, ← e2]
  exact Any7.bits_Sub64 Try.lays26 x y b (by omega) w
theorem add64_0 (x y : Int) (hx : 0 ≤ x) (hy : 0 ≤ y) (w : World) : (callFunc 82 #[.int .u64 x, .int .u64 y, .int .u64 0]).run Try.prog w =
    .ok (.value (.tuple #[.int .u64 ((x + y) % 18446744073709551616), .int .u64 ((x + y) / 18446744073709551616)])) w := by
  simpa using add64 x y 0 hx hy (Int.le_refl 0) (by decide) w
theorem sub64_0 (x y : Int) (hx : 0 ≤ x) (hy : 0 ≤ y) (hy' : y < 18446744073709551616) (w : World) : (callFunc 106 #[.int .u64 x, .int .u64 y, .int .u64 0]).run Try.prog w =
    .ok (.value (.tuple #[.int .u64 ((x - y) % 18446744073709551616), .int .u64 (bor x y)])) w := by
  simpa using sub64 x y 0 hx hy hy' (Int.le_refl 0) (by decide) w

theorem below_any (hi lo : Int) (w : World) :
    Calls Try.prog 83 #[wideV hi lo] w (Ret w (.bool (decide (hi < 0)))) := by
  go_enter Try.func83, Try.ntmps83
  go_wp2
  go_ret
  exact ⟨rfl, by go_grown⟩
theorem ifRoomW_yes (hi lo : Int) (w : World) :
    Calls Try.prog 84 #[wideV hi lo, .bool true] w (Ret w (.tuple #[wideV hi lo, .int .i64 0])) := by
  go_enter Try.func84, Try.ntmps84
  go_wp2
  go_returns
  exact ⟨rfl, by go_grown⟩
theorem ifRoomW_no (hi lo : Int) (w : World) :
    Calls Try.prog 84 #[wideV hi lo, .bool false] w (Ret w (.tuple #[wideV 0 0, .int .i64 5])) := by
  go_enter Try.func84, Try.ntmps84
  go_wp2
  go_returns
  exact ⟨rfl, by go_grown⟩
theorem ifRoomI_yes (n : Int) (w : World) :
    Calls Try.prog 99 #[.int .i64 n, .bool true] w (Ret w (.tuple #[.int .i64 n, .int .i64 0])) := by
  go_enter Try.func99, Try.ntmps99
  go_wp2
  go_returns
  exact ⟨rfl, by go_grown⟩
theorem ifRoomI_no (n : Int) (w : World) :
    Calls Try.prog 99 #[.int .i64 n, .bool false] w (Ret w (.tuple #[.int .i64 0, .int .i64 5])) := by
  go_enter Try.func99, Try.ntmps99
  go_wp2
  go_returns
  exact ⟨rfl, by go_grown⟩
theorem of_any (n : Int) (h : I64 n) (w : World) :
    Calls Try.prog 45 #[.int .i64 n] w (Ret w (wideV (rhi n) (rlo n))) := by
  obtain ⟨h1, h2⟩ := h
  have e1 : rhi n = n / 9223372036854775808 := by unfold rhi; rw [if_pos (by unfold Fits; omega)]; omega
  have e2 : rlo n = IntKind.u64.wrap n := by unfold rlo; rw [if_pos (by unfold Fits; omega), IntKind.wrap_u64]
  rw [e1, e2]
  clear e1 e2
  go_enter Try.func45, Try.ntmps45
  go_wp2
  go_returns
  exact ⟨rfl, by go_grown⟩
theorem mirror_any (hi lo : Int) (h : I64 hi) (k : U64 lo) (w : World) :
    Calls Try.prog 105 #[wideV hi lo] w (Ret w (wideV (-1 - hi) (18446744073709551615 - lo))) := by
  rw [← not_i64 hi h, ← not_u64 lo k]
  go_enter Try.func105, Try.ntmps105
  go_wp2
  all_goals (first | (go_returns; exact ⟨rfl, by go_grown⟩) | (exfalso; revert ‹¬ _›; decide) | (exfalso; revert ‹_ = true›; decide))
theorem negative_any (hi lo : Int) (h : U64 hi) (k : U64 lo) (w : World) :
    Calls Try.prog 102 #[distV hi lo] w (Ret w (distV (nhi hi lo) (nlo lo))) := by
  obtain ⟨h1, h2⟩ := h
  obtain ⟨h3, h4⟩ := k
  have k0 : 0 ≤ bor 0 lo := by unfold bor; split <;> decide
  have k1 : bor 0 lo ≤ 1 := by unfold bor; split <;> decide
  have q1 := sub64 0 hi (bor 0 lo) (by decide) h1 h2 k0 k1
  have q0 := sub64_0 0 lo (by decide) h3 h4
  unfold nhi nlo
  generalize bor 0 lo = b at *
  generalize bor 0 (hi + b) = b' at *
  generalize (0 - hi - b) % 18446744073709551616 = x at *
  generalize (0 - lo) % 18446744073709551616 = y at *
  have Q1 := Lib.hid q1
  have Q0 := Lib.hid q0
  clear q1 q0
  go_enter Try.func102, Try.ntmps102
  go_wp2_with (first | simp only [Q0.out] | simp only [Q1.out])
  go_returns
  exact ⟨rfl, by go_grown⟩
theorem compare_any (ah al bh bl : Int) (w : World) :
    Calls Try.prog 97 #[wideV ah al, wideV bh bl] w (Ret w (.int .i64 (if ah = bh ∧ al = bl then 0 else if ah < bh ∨ ah = bh ∧ al < bl then -1 else 1))) := by
  by_cases c1 : ah = bh
  · subst c1
    by_cases c2 : al = bl
    · subst c2
      rw [if_pos ⟨rfl, rfl⟩]
      go_enter Try.func97, Try.ntmps97
      go_wp2
      go_ret
      exact ⟨rfl, by go_grown⟩
    · rw [if_neg (by simp [c2])]
      have d2 : (al == bl) = false := by simpa using c2
      by_cases c3 : al < bl
      · rw [if_pos (Or.inr ⟨rfl, c3⟩)]
        go_enter Try.func97, Try.ntmps97
        go_wp2
        go_ret
        exact ⟨rfl, by go_grown⟩
      · rw [if_neg (by omega)]
        have d3 : decide (al < bl) = false := by simpa using c3
        go_enter Try.func97, Try.ntmps97
        go_wp2
        go_ret
        exact ⟨rfl, by go_grown⟩
  · rw [if_neg (by simp [c1])]
    have d1 : (ah == bh) = false := by simpa using c1
    by_cases c3 : ah < bh
    · rw [if_pos (Or.inl c3)]
      go_enter Try.func97, Try.ntmps97
      go_wp2
      go_ret
      exact ⟨rfl, by go_grown⟩
    · rw [if_neg (by omega)]
      have d3 : decide (ah < bh) = false := by simpa using c3
      go_enter Try.func97, Try.ntmps97
      go_wp2
      go_ret
      exact ⟨rfl, by go_grown⟩
end Go.Proofs.Ytnacdofidmgfmaa
