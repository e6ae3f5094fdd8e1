/-
  Layer 4: Middle. Conditions: those written at each fact.
-/
import Derived.Test.YtmkminaipeodnaaSpW
namespace Go.Proofs.Ytmkminaipeodnaa
open Go.RowKit

theorem nat_and_xor : ∀ x y : Nat, 2 * (x &&& y) + (x ^^^ y) = x + y := by
  intro x
  induction x using Nat.strongRecOn with
  | _ x ih =>
    intro y
    by_cases h : x = 0
    · subst h; simp
    · have i := ih (x / 2) (by omega) (y / 2)
      rw [← Nat.and_div_two, ← Nat.xor_div_two] at i
      have a := Nat.and_mod_two_pow (a := x) (b := y) (n := 1)
      have b := Nat.xor_mod_two_pow (a := x) (b := y) (n := 1)
      simp only [Nat.pow_one] at a b
      have p : x % 2 = 0 ∨ x % 2 = 1 := by omega
      have q : y % 2 = 0 ∨ y % 2 = 1 := by omega
      rcases p with p | p <;> rcases q with q | q <;> rw [p, q] at a b
      · replace a : (x &&& y) % 2 = 0 := a
        replace b : (x ^^^ y) % 2 = 0 := b
        omega
      · replace a : (x &&& y) % 2 = 0 := a
        replace b : (x ^^^ y) % 2 = 1 := b
        omega
      · replace a : (x &&& y) % 2 = 0 := a
        replace b : (x ^^^ y) % 2 = 1 := b
        omega
      · replace a : (x &&& y) % 2 = 1 := a
        replace b : (x ^^^ y) % 2 = 0 := b
        omega
theorem i64_two (n : Int) (h0 : 0 ≤ n) (h1 : n < 18446744073709551616) : (n < 9223372036854775808 ∧ IntKind.i64.wrap n = n) ∨ (9223372036854775808 ≤ n ∧ IntKind.i64.wrap n = n - 18446744073709551616) := by
  rw [IntKind.wrap_i64]
  omega
theorem u64_two (n : Int) (h0 : -9223372036854775808 ≤ n) (h1 : n ≤ 9223372036854775807) : (0 ≤ n ∧ n % 18446744073709551616 = n) ∨ (n < 0 ∧ n % 18446744073709551616 = n + 18446744073709551616) := by
  omega
theorem mid_plain (x y A B X Y a b : Int) (x1 : -9223372036854775808 ≤ x) (x2 : x ≤ 9223372036854775807) (y1 : -9223372036854775808 ≤ y) (y2 : y ≤ 9223372036854775807) (k : 2 * A + B = X + Y)
    (hx : (0 ≤ x ∧ X = x) ∨ (x < 0 ∧ X = x + 18446744073709551616)) (hy : (0 ≤ y ∧ Y = y) ∨ (y < 0 ∧ Y = y + 18446744073709551616))
    (ha : (A < 9223372036854775808 ∧ a = A) ∨ (9223372036854775808 ≤ A ∧ a = A - 18446744073709551616)) (hb : (B < 9223372036854775808 ∧ b = B) ∨ (9223372036854775808 ≤ B ∧ b = B - 18446744073709551616))
    (hA : 9223372036854775808 ≤ A ↔ x < 0 ∧ y < 0) (hB : 9223372036854775808 ≤ B ↔ (x < 0 ∧ 0 ≤ y ∨ 0 ≤ x ∧ y < 0)) : wrap64 (a + b / 2) = (x + y) / 2 := by
  have e : 2 * a + b = x + y := by omega
  clear k hx hy ha hb hA hB
  have e2 : a + b / 2 = (x + y) / 2 := by omega
  rw [e2]
  unfold wrap64
  omega
theorem bit63 (A : Nat) (h : A < 2 ^ 64) : 9223372036854775808 ≤ (A : Int) ↔ A.testBit 63 = true := by
  rw [Nat.testBit_eq_decide_div_mod_eq, decide_eq_true_eq]
  have e : (2 : Nat) ^ 64 = 18446744073709551616 := by decide
  have e2 : (2 : Nat) ^ 63 = 9223372036854775808 := by decide
  rw [e] at h
  rw [e2]
  omega
theorem mid_bits (x y : Int) (x1 : -9223372036854775808 ≤ x) (x2 : x ≤ 9223372036854775807) (y1 : -9223372036854775808 ≤ y) (y2 : y ≤ 9223372036854775807) : wrap64 (bits BinOp.and IntKind.i64 x y + bits BinOp.xor IntKind.i64 x y / 2) = (x + y) / 2 := by
  have e1 : bits BinOp.and IntKind.i64 x y = IntKind.i64.wrap ((BitVec.ofInt 64 x &&& BitVec.ofInt 64 y).toNat : Int) := rfl
  have e2 : bits BinOp.xor IntKind.i64 x y = IntKind.i64.wrap ((BitVec.ofInt 64 x ^^^ BitVec.ofInt 64 y).toNat : Int) := rfl
  rw [e1, e2, BitVec.toNat_and, BitVec.toNat_xor]
  clear e1 e2
  have l1 := (BitVec.ofInt 64 x).isLt
  have l2 := (BitVec.ofInt 64 y).isLt
  have vx : ((BitVec.ofInt 64 x).toNat : Int) = x % 18446744073709551616 := by
    rw [BitVec.toNat_ofInt]; exact Int.toNat_of_nonneg (Int.emod_nonneg _ (by decide))
  have vy : ((BitVec.ofInt 64 y).toNat : Int) = y % 18446744073709551616 := by
    rw [BitVec.toNat_ofInt]; exact Int.toNat_of_nonneg (Int.emod_nonneg _ (by decide))
  generalize (BitVec.ofInt 64 x).toNat = X at *
  generalize (BitVec.ofInt 64 y).toNat = Y at *
  have k := nat_and_xor X Y
  have hA : (X &&& Y) < 2 ^ 64 := Nat.and_lt_two_pow X l2
  have hB : (X ^^^ Y) < 2 ^ 64 := Nat.xor_lt_two_pow l1 l2
  have bA := bit63 _ hA
  have bB := bit63 _ hB
  have bX := bit63 _ l1
  have bY := bit63 _ l2
  rw [Nat.testBit_and, Bool.and_eq_true, ← bX, ← bY] at bA
  rw [Nat.testBit_xor] at bB
  have e : (2 : Nat) ^ 64 = 18446744073709551616 := by decide
  rw [e] at hA hB l1 l2
  generalize X &&& Y = A at *
  generalize X ^^^ Y = B at *
  have hx := u64_two x x1 x2
  have hy := u64_two y y1 y2
  rw [← vx] at hx
  rw [← vy] at hy
  have sx : 9223372036854775808 ≤ (X : Int) ↔ x < 0 := by clear bA bB bX bY hy k; omega
  have sy : 9223372036854775808 ≤ (Y : Int) ↔ y < 0 := by clear bA bB bX bY hx k; omega
  rw [sx, sy] at bA
  rw [sx] at bX
  rw [sy] at bY
  refine mid_plain x y A B X Y _ _ x1 x2 y1 y2 (by clear bA bB bX bY; omega) hx hy (i64_two A (by omega) (by clear bA bB bX bY; omega)) (i64_two B (by omega) (by clear bA bB bX bY; omega)) bA ?_
  rw [bB]
  cases h1 : X.testBit 63 <;> cases h2 : Y.testBit 63 <;> rw [h1] at bX <;> rw [h2] at bY <;> simp at bX bY ⊢ <;> omega
set_option maxRecDepth 100000 in
theorem middle_any (lo hi : Int) (l1 : -9223372036854775808 ≤ lo) (h2 : hi ≤ 9223372036854775807) (w : World) : Calls Try.prog 30 #[spV lo hi] w (Ret w (.tuple #[.int .i64 (if hi < lo then 0 else (lo + hi) / 2), .int .i64 (if hi < lo then 140 else 0)])) := by
  have CK := Lib.hid (fun W => check_any lo hi W)
  by_cases g : hi < lo
  · rw [if_pos g] at CK
    rw [if_pos g, if_pos g]
    clear g
    go_enter Try.func30, Try.ntmps30
    go_wp2_with fail
    refine (CK.out _).mono ?_
    rintro en w1 ⟨rfl, hb1⟩
    have B1 := Lib.hid hb1
    clear hb1
    go_wp2_with fail
    go_ret2
    exact ⟨rfl, below_then (below_alloc _ _) B1.out⟩
  · rw [if_neg g] at CK
    rw [if_neg g, if_neg g]
    go_enter Try.func30, Try.ntmps30
    go_wp2_with fail
    refine (CK.out _).mono ?_
    rintro e w1 ⟨rfl, hb⟩
    have hHeld : Keeps w [(w.heap.size, 0, .int .i64 lo), (w.heap.size, 1, .int .i64 hi)] _ := Keeps.next (by refine ⟨by go_grown, ?_⟩; simp [Cells, go_sem]) hb
    clear hb
    obtain ⟨⟨kz0, kc0, kf0⟩, ⟨kz1, kc1, kf1⟩, _⟩ := hHeld.2
    go_wp2_with fail
    go_ret2
    exact ⟨by rw [← mid_bits lo hi l1 (by omega) (by omega) h2]; rfl, by first | (with_reducible exact hHeld.1) | (have hB := hHeld.1; have hz := hB.size; go_grown)⟩
end Go.Proofs.Ytmkminaipeodnaa
