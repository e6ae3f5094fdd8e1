/-
  Layer 3: Order. Conditions: words are of 64 bits.
-/
import Derived.Test.YtpldkccjhplipaaFixC
namespace Go.Proofs.Ytpldkccjhplipaa
open Go.RowKit Go.Shelf

def ordB (a b : Nat) : Bool := !(nanF a || nanF b)
def ordN (a b : Nat) : Int := if nanF a || nanF b then 0 else if exact a < exact b then -1 else if exact b < exact a then 1 else 0
set_option maxRecDepth 100000 in
set_option maxHeartbeats 1000000 in
theorem order_any (a b : Nat) (ha : a < 18446744073709551616) (hb : b < 18446744073709551616) (w : World) : Calls Try.prog 23 #[fl a, fl b] w (Ret w (.tuple #[.int .i64 (ordN a b), .bool (ordB a b)])) := by
  have E : FloatKind.f64.format.order a b = if nanF a || nanF b then none else some (compare (exact a) (exact b)) := order_exact ha hb
  unfold ordN ordB
  clear ha hb
  generalize (nanF a || nanF b) = n at *
  generalize exact a = x at *
  generalize exact b = y at *
  cases n
  · simp only [Bool.false_eq_true, if_false, Bool.not_false] at E ⊢
    rcases Int.lt_trichotomy x y with h | h | h
    · rw [Int.compare_eq_lt.2 h] at E
      rw [if_pos h]
      clear h
      go_enter Try.func23, Try.ntmps23
      go_wp2
      go_ret2
      exact ⟨rfl, Below.refl _ _⟩
    · rw [Int.compare_eq_eq.2 h] at E
      rw [if_neg (by omega), if_neg (by omega)]
      clear h
      go_enter Try.func23, Try.ntmps23
      go_wp2
      go_ret2
      exact ⟨rfl, Below.refl _ _⟩
    · rw [Int.compare_eq_gt.2 h] at E
      rw [if_neg (by omega), if_pos h]
      clear h
      go_enter Try.func23, Try.ntmps23
      go_wp2
      go_ret2
      exact ⟨rfl, Below.refl _ _⟩
  · simp only [if_true, Bool.not_true] at E ⊢
    go_enter Try.func23, Try.ntmps23
    go_wp2
    go_ret2
    exact ⟨rfl, Below.refl _ _⟩
end Go.Proofs.Ytpldkccjhplipaa
