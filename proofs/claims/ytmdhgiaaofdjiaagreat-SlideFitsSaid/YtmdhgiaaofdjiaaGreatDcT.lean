/-
  The document's own answers for layer 10: a product, and which slope is less. Conditions: those written at each fact.
-/
import Derived.Test.YtmdhgiaaofdjiaaGreatSlA
namespace Go.Proofs.YtmdhgiaaofdjiaaGreat.P10
open Go.RowKit Go.Shelf Go.Proofs.YtmdhgiaaofdjiaaGreat.P8

theorem pos_fits {n d : Int} (hn : I64 n) (hd : 1 ≤ d ∧ d ≤ 9223372036854775807) : Fits (n * d) := by
  unfold I64 at hn
  have := mul_bound (x := n) (y := d) (X := 9223372036854775808) (Y := 9223372036854775808) (by omega) (by omega)
  unfold Fits
  omega
/-- A product's upper, and its lower word. -/
theorem words {n d : Int} (hn : I64 n) (hd : 1 ≤ d ∧ d ≤ 9223372036854775807) :
    rhi (n * d) = n * d / 18446744073709551616 ∧ rlo (n * d) = n * d % 18446744073709551616 ∧ -4611686018427387904 ≤ n * d / 18446744073709551616 ∧ n * d / 18446744073709551616 ≤ 4611686018427387904 := by
  have hf := pos_fits hn hd
  unfold I64 at hn
  have := mul_bound (x := n) (y := d) (X := 9223372036854775808) (Y := 9223372036854775808) (by omega) (by omega)
  unfold rhi rlo
  rw [if_pos hf, if_pos hf]
  omega
set_option maxRecDepth 100000 in
theorem prod_any (n d : Int) (hn : I64 n) (hd : 1 ≤ d ∧ d ≤ 9223372036854775807) (w : World) : Calls Tryz.prog 110 #[.int .i64 n, .int .i64 d] w (Ret w (.tuple #[.int .i64 (rhi (n * d)), .int .u64 (rlo (n * d))])) := by
  obtain ⟨w1, w2, w3, w4⟩ := words hn hd
  rw [w1, w2]
  clear w1 w2
  have ed : IntKind.u64.wrap d = d := by rw [IntKind.wrap_u64]; omega
  unfold I64 at hn
  by_cases g : n < 0
  · have en : IntKind.u64.wrap n = n + 18446744073709551616 := by rw [IntKind.wrap_u64]; omega
    have M := mul64 (n + 18446744073709551616) d ⟨by omega, by omega⟩ ⟨by omega, by omega⟩ w
    have hneg : n * d < 0 := Int.mul_neg_of_neg_of_pos g (by omega)
    have k1 : (n + 18446744073709551616) * d / 18446744073709551616 = n * d / 18446744073709551616 + d := by
      rw [Int.add_mul, Int.mul_comm 18446744073709551616 d, Int.add_mul_ediv_right _ _ (by decide)]
    have k2 : (n + 18446744073709551616) * d % 18446744073709551616 = n * d % 18446744073709551616 := by
      rw [Int.add_mul, Int.mul_comm 18446744073709551616 d, Int.add_mul_emod_self_right]
    rw [k1, k2] at M
    obtain ⟨h, hh⟩ : ∃ h, h = n * d / 18446744073709551616 := ⟨_, rfl⟩
    rw [← hh] at M w3 w4 ⊢
    have h0 : h < 0 := by omega
    have e3 : IntKind.u64.wrap (h + d - d) = h + 18446744073709551616 := by rw [IntKind.wrap_u64]; omega
    have e4 : IntKind.u64.wrap h = h + 18446744073709551616 := by rw [IntKind.wrap_u64]; omega
    have e5 : IntKind.i64.wrap (h + 18446744073709551616) = h := by rw [IntKind.wrap_i64]; omega
    have e6 : wrap64 (h + 18446744073709551616) = h := by unfold wrap64; omega
    have e7 : h + d - d = h := by omega
    have M2 := Lib.hid M
    generalize n * d % 18446744073709551616 = q at *
    clear M hh hneg k1 k2 w3 w4 h0
    go_enter Tryz.func110, Tryz.ntmps110
    go_wp2_with fail
    refine M2.out.mono ?_
    rintro en2 w1 ⟨rfl, rfl⟩
    go_wp2_with fail
    go_returns
    exact ⟨rfl, Below.refl _ _⟩
  · have en : IntKind.u64.wrap n = n := by rw [IntKind.wrap_u64]; omega
    have M := mul64 n d ⟨by omega, by omega⟩ ⟨by omega, by omega⟩ w
    have h0 : 0 ≤ n * d := Int.mul_nonneg (by omega) (by omega)
    obtain ⟨h, hh⟩ : ∃ h, h = n * d / 18446744073709551616 := ⟨_, rfl⟩
    rw [← hh] at M w3 w4 ⊢
    have h1 : 0 ≤ h := by omega
    have e5 : IntKind.i64.wrap h = h := by rw [IntKind.wrap_i64]; omega
    have e6 : wrap64 h = h := by unfold wrap64; omega
    have M2 := Lib.hid M
    generalize n * d % 18446744073709551616 = q at *
    clear M hh h0 h1 w3 w4
    go_enter Tryz.func110, Tryz.ntmps110
    go_wp2_with fail
    refine M2.out.mono ?_
    rintro en2 w1 ⟨rfl, rfl⟩
    go_wp2_with fail
    go_returns
    exact ⟨rfl, Below.refl _ _⟩
theorem words_lt {x y : Int} (hx : Fits x) (hy : Fits y) : (decide (rhi x < rhi y) || (rhi x == rhi y && decide (rlo x < rlo y))) = decide (x < y) := by
  have e1 := val_r hx
  have e2 := val_r hy
  have u1 := rlo_u64 x
  have u2 := rlo_u64 y
  unfold val at e1 e2
  unfold U64 at u1 u2
  rw [Bool.eq_iff_iff]
  simp only [Bool.or_eq_true, Bool.and_eq_true, decide_eq_true_eq, beq_iff_eq]
  omega
end Go.Proofs.YtmdhgiaaofdjiaaGreat.P10
