/-
  Layer 2, plain facts: what was put is got. No program. Conditions: those written at each fact.
-/
import Derived.Test.YtahfopednhmbiaaGetV
namespace Go.Proofs.Ytahfopednhmbiaa

theorem scan_digs : ∀ (f s n : Nat) (r : List Int), s + f = 9 → n < 2 ^ (64 - 7 * s) → (0 < n ∨ s = 0) → scan s (digs n ++ r) = (0, s + (digs n).length)
  | 0, s, n, r, hs, hn, h0 => by
    obtain rfl : s = 9 := by omega
    rw [digs_end (by omega), List.singleton_append, scan, if_neg (by omega), if_neg (by omega), if_neg (by omega)]
    rfl
  | f + 1, s, n, r, hs, hn, h0 => by
    by_cases g : n < 128
    · rw [digs_end g, List.singleton_append, scan, if_neg (by omega), if_neg (by omega), if_neg (by omega)]
      rfl
    · rw [digs_more g, List.cons_append, scan, if_neg (by omega), if_pos (by omega), scan_digs f (s + 1) (n / 128) r (by omega) ?_ (.inl (by omega)), List.length_cons]
      · congr 1; omega
      · have e : 2 ^ (64 - 7 * s) = 2 ^ (64 - 7 * (s + 1)) * 128 := by
          rw [show 64 - 7 * s = (64 - 7 * (s + 1)) + 7 from by omega, Nat.pow_add]
        rw [e] at hn
        omega
theorem num_digs : ∀ (k n : Nat), n < 128 ^ (k + 1) → numOf (digs n) = n
  | 0, n, h => by rw [digs_end (by omega)]; simp [numOf]; omega
  | k + 1, n, h => by
    by_cases g : n < 128
    · rw [digs_end g]; simp [numOf]; omega
    · rw [digs_more g, numOf, num_digs k (n / 128) (by rw [Nat.pow_succ] at h; omega)]
      omega
theorem unz_zig (m : Int) : unz (Lib.zigzag m) = m := by unfold unz Lib.zigzag; split <;> split <;> omega
theorem zig_unz {n : Nat} : Lib.zigzag (unz n) = n := by unfold unz Lib.zigzag; split <;> split <;> omega
theorem digs_bytes : ∀ (k n : Nat), n < 128 ^ (k + 1) → ∀ z ∈ digs n, 0 ≤ z ∧ z < 256
  | 0, n, h => by rw [digs_end (by omega)]; intro z hz; simp at hz; omega
  | k + 1, n, h => by
    by_cases g : n < 128
    · rw [digs_end g]; intro z hz; simp at hz; omega
    · rw [digs_more g]
      intro z hz
      rcases List.mem_cons.1 hz with rfl | hz
      · omega
      · exact digs_bytes k (n / 128) (by rw [Nat.pow_succ] at h; omega) z hz
theorem digs_b {n : Nat} (h : n < 18446744073709551616) : ∀ z ∈ digs n, 0 ≤ z ∧ z < 256 := digs_bytes 9 n (by omega)

/-- A number that was put is got, wherever it stands. -/
theorem got_put {l r : List Int} {n : Nat} (h : n < 18446744073709551616) : gotN (l ++ digs n ++ r) l.length = n ∧ gotP (l ++ digs n ++ r) l.length = l.length + (digs n).length ∧ gotE (l ++ digs n ++ r) l.length = 0 := by
  have hd : (l ++ digs n ++ r).drop l.length = digs n ++ r := by rw [List.append_assoc, List.drop_left]
  have hs := scan_digs 9 0 n r (by omega) (by omega) (.inr rfl)
  rw [Nat.zero_add] at hs
  have hl : l.length ≤ (l ++ digs n ++ r).length := by simp
  have h1 := got_ok (l := l ++ digs n ++ r) (a := l.length) hl (by rw [hd, hs])
  rw [hd, hs] at h1
  simp only [List.take_left] at h1
  rw [num_digs 9 n (by omega)] at h1
  exact h1
end Go.Proofs.Ytahfopednhmbiaa
