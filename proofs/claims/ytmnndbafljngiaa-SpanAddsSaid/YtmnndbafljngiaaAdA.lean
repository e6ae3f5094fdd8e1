/-
  Layer 4: sums of many spans, and a span so many times: what SpanAdds asks. Conditions: those written at each fact.
-/
import Derived.Test.YtmnndbafljngiaaMeets
import Derived.Test.YtmnndbafljngiaaSpK
namespace Go.Proofs.Ytmnndbafljngiaa
open Go.RowKit

/-- Below 2^50, both ways. -/
def Sml (z : Int) : Prop := -1125899906842624 ≤ z ∧ z ≤ 1125899906842624
theorem sml_tmod (z : Int) : Sml (z.tmod 1125899906842624) := by
  have := Int.tmod_lt_of_pos z (show (0 : Int) < 1125899906842624 by decide)
  have := Int.lt_tmod_of_pos z (show (0 : Int) < 1125899906842624 by decide)
  unfold Sml
  omega
theorem mul_sml (x m : Int) (hx : Sml x) (m1 : -999 ≤ m) (m2 : m ≤ 999) : -1125899906842624000 ≤ x * m ∧ x * m ≤ 1125899906842624000 := by
  unfold Sml at hx
  have h := Nat.mul_le_mul (show x.natAbs ≤ 1125899906842624 by omega) (show m.natAbs ≤ 999 by omega)
  rw [← Int.natAbs_mul] at h
  generalize x * m = z at *
  omega
theorem betw_in (x y : Int) (x1 : -9223372036854775808 ≤ x) (x2 : x ≤ 9223372036854775807) (y1 : -9223372036854775808 ≤ y) (y2 : y ≤ 9223372036854775807) : betw x y = .tuple #[spV x y, .int .i64 0] := by
  unfold betw rr
  rw [if_pos ⟨by omega, by omega⟩]
theorem times_in (x y m : Int) (hx : Sml x) (hy : Sml y) (hxy : x ≤ y) (m1 : -999 ≤ m) (m2 : m ≤ 999) :
    ∃ t0 t1, timesR x y m = .tuple #[spV t0 t1, .int .i64 0] ∧ timesR t0 t1 (-1) = .tuple #[spV (-t1) (-t0), .int .i64 0] ∧ timesR x y (-m) = .tuple #[spV (-t1) (-t0), .int .i64 0] ∧
      -1125899906842624000 ≤ t0 ∧ t0 ≤ t1 ∧ t1 ≤ 1125899906842624000 ∧ (∀ v, x ≤ v → v ≤ y → t0 ≤ v * m ∧ v * m ≤ t1) ∧ (0 ≤ m → t1 - t0 = (y - x) * m) ∧ (m ≤ 0 → t1 - t0 = (y - x) * -m) := by
  obtain ⟨a1, a2⟩ := mul_sml x m hx m1 m2
  obtain ⟨b1, b2⟩ := mul_sml y m hy m1 m2
  have n1 : (y - x) * m = y * m - x * m := Int.sub_mul _ _ _
  have n2 : (y - x) * -m = -(y * m - x * m) := by rw [Int.mul_neg, n1]
  have e1 : x * -m = -(x * m) := Int.mul_neg _ _
  have e2 : y * -m = -(y * m) := Int.mul_neg _ _
  have nl : ¬ y < x := by omega
  by_cases g : m < 0
  · have k := Int.mul_le_mul_of_nonpos_right hxy (show m ≤ 0 by omega)
    have K := fun v (h1 : x ≤ v) (h2 : v ≤ y) => And.intro (Int.mul_le_mul_of_nonpos_right h2 (show m ≤ 0 by omega)) (Int.mul_le_mul_of_nonpos_right h1 (show m ≤ 0 by omega))
    refine ⟨y * m, x * m, ?_, ?_, ?_, b1, k, a2, K, fun h => by omega, fun _ => by rw [n2]; omega⟩
    · unfold timesR
      rw [if_neg nl, if_pos g, betw_in _ _ (by omega) (by omega) (by omega) (by omega)]
    · unfold timesR
      rw [if_neg (by omega), if_pos (by decide), Int.mul_neg_one, Int.mul_neg_one, betw_in _ _ (by omega) (by omega) (by omega) (by omega)]
    · unfold timesR
      rw [if_neg nl, if_neg (by omega), e1, e2, betw_in _ _ (by omega) (by omega) (by omega) (by omega)]
  · have k := Int.mul_le_mul_of_nonneg_right hxy (show 0 ≤ m by omega)
    have K := fun v (h1 : x ≤ v) (h2 : v ≤ y) => And.intro (Int.mul_le_mul_of_nonneg_right h1 (show 0 ≤ m by omega)) (Int.mul_le_mul_of_nonneg_right h2 (show 0 ≤ m by omega))
    refine ⟨x * m, y * m, ?_, ?_, ?_, a1, k, b2, K, fun _ => by rw [n1], fun h => ?_⟩
    · unfold timesR
      rw [if_neg nl, if_neg g, betw_in _ _ (by omega) (by omega) (by omega) (by omega)]
    · unfold timesR
      rw [if_neg (by omega), if_pos (by decide), Int.mul_neg_one, Int.mul_neg_one, betw_in _ _ (by omega) (by omega) (by omega) (by omega)]
    · unfold timesR
      rw [if_neg nl]
      by_cases g0 : m = 0
      · subst g0
        simp only [Int.neg_zero, Int.mul_zero, Int.lt_irrefl, if_false]
        exact betw_in _ _ (by omega) (by omega) (by omega) (by omega)
      · rw [if_pos (by omega), e1, e2, betw_in _ _ (by omega) (by omega) (by omega) (by omega)]
    · have g0 : m = 0 := by omega
      subst g0
      simp
theorem sumS_app (l : List (Int × Int)) (x y : Int) : sumS (l ++ [(x, y)]) = ((sumS l).1 + x, (sumS l).2 + y) := by
  unfold sumS foldS
  rw [List.foldl_append]
  rfl
/-- After so many rounds: spans M, numbers V, their sum s, the widths' sum u. -/
def AddsI (M : List (Int × Int)) (V : List Int) (s u : Int) : Prop :=
  V.length = M.length ∧ (∀ p ∈ M, Sml p.1 ∧ Sml p.2 ∧ p.1 ≤ p.2) ∧ (∀ (i : Nat) p q, M[i]? = some p → V[i]? = some q → p.1 ≤ q ∧ q ≤ p.2) ∧ (sumS M).1 ≤ s ∧ s ≤ (sumS M).2 ∧ u = (sumS M).2 - (sumS M).1 ∧
    -(M.length * 1125899906842624) ≤ (sumS M).1 ∧ (sumS M).2 ≤ M.length * 1125899906842624
theorem addsI_nil : AddsI [] [] 0 0 := by
  refine ⟨rfl, by simp, by simp, ?_, ?_, ?_, ?_, ?_⟩ <;> simp [sumS, foldS]
theorem addsI_next {M : List (Int × Int)} {V : List Int} {s u x y v : Int} (h : AddsI M V s u) (hx : Sml x) (hy : Sml y) (h1 : x ≤ v) (h2 : v ≤ y) : AddsI (M ++ [(x, y)]) (V ++ [v]) (s + v) (u + (y - x)) := by
  obtain ⟨a1, a2, a3, a4, a5, a6, a7, a8⟩ := h
  unfold AddsI
  rw [sumS_app, List.length_append, List.length_append, a1]
  refine ⟨rfl, ?_, ?_, ?_, ?_, ?_, ?_, ?_⟩
  · intro p hp
    rcases List.mem_append.1 hp with hp | hp
    · exact a2 p hp
    · rw [List.mem_singleton] at hp
      subst hp
      exact ⟨hx, hy, Int.le_trans h1 h2⟩
  · intro i p q hp hq
    by_cases g : i < M.length
    · rw [List.getElem?_append_left g] at hp
      rw [List.getElem?_append_left (by omega)] at hq
      exact a3 i p q hp hq
    · rw [List.getElem?_append_right (by omega)] at hp
      rw [List.getElem?_append_right (by omega), a1] at hq
      generalize i - M.length = j at *
      cases j with
      | zero => simp at hp hq; subst hp hq; exact ⟨h1, h2⟩
      | succ j => simp at hp
  all_goals
    unfold Sml at hx hy
    simp only [List.length_singleton]
    omega
theorem addsI_plus {M : List (Int × Int)} {V : List Int} {s u : Int} (h : AddsI M V s u) (hl : M.length ≤ 20) : plusR M = .tuple #[spV (sumS M).1 (sumS M).2, .int .i64 0] := by
  obtain ⟨a1, a2, a3, a4, a5, a6, a7, a8⟩ := h
  have hb : badS M = false := by
    unfold badS
    rw [List.any_eq_false]
    intro p hp
    have := a2 p hp
    simp
    omega
  unfold plusR
  rw [hb, if_neg (by simp)]
  exact betw_in _ _ (by omega) (by omega) (by omega) (by omega)
set_option maxRecDepth 100000 in
set_option maxHeartbeats 2000000 in
theorem small_any (z : Int) (w : World) : Calls Try.prog 41 #[.int .i64 z] w (Ret w (.int .i64 (z.tmod 1125899906842624))) := by
  go_enter Try.func41, Try.ntmps41
  go_wp2_with fail
  go_ret
  exact ⟨rfl, Below.refl _ _⟩
end Go.Proofs.Ytmnndbafljngiaa
