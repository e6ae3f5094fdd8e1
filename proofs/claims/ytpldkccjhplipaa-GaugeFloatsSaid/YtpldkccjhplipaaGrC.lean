/-
  Layer 3: the document's own answers: Parts, Order; the law GaugeOrders, its walk. Conditions: words are of 64 bits.
-/
import Derived.Test.YtpldkccjhplipaaGrB
import Derived.Test.YtpldkccjhplipaaWak
namespace Go.Proofs.Ytpldkccjhplipaa
open Go.RowKit Go.Shelf

theorem frac_len (b : Nat) : (sizeL (frac b)).length ≤ 52 := sizeL_length 52 _ (by have := frac_lt b; omega)
theorem p52_nat : ((2 ^ 52 : Nat) : Int) = 4503599627370496 := by decide
/-- A number times 2^1200. -/
def scaled126 (b : Nat) : Int := exact b * ((2 ^ 126 : Nat) : Int)
theorem parts_eq (b : Nat) (sh : Nat) (hsh : sh = 126 + lift b) : scaled126 b = if below b then -(((whole b : Nat) : Int) * ((2 ^ sh : Nat) : Int)) else ((whole b : Nat) : Int) * ((2 ^ sh : Nat) : Int) := by
  have e : ((whole b : Nat) : Int) * ((2 ^ sh : Nat) : Int) = ((unit b : Nat) : Int) * ((2 ^ 126 : Nat) : Int) := by
    rw [← Int.natCast_mul, ← Int.natCast_mul]
    unfold unit
    rw [hsh, Nat.mul_assoc, ← Nat.pow_add, Nat.add_comm 126]
  unfold scaled126 exact
  rw [e]
  split
  · rw [Int.neg_mul]
  · rfl
theorem below_iff (b : Nat) (hb : b < 18446744073709551616) : below b = decide (9223372036854775808 ≤ b) := by
  unfold below
  rw [decide_eq_decide]
  omega
theorem refParts_any (b : Nat) (hb : b < 18446744073709551616) (w : World) : Calls Try.prog 27 #[.int .u64 b] w (RetZ w (scaled126 b)) := by
  have he := expo_lt b
  have hf := frac_lt b
  have hfl := frac_len b
  have E := fun W => exponent_any b hb W
  have F := fun W => fraction_any b W
  have S := fun W => (size_any (frac b) (by omega) W).mono fun _ _ (h : Made W _ _ _) => retN_of h.gave
  have P52 := fun W => pow_any 52 (by decide) W
  have l52 := size_pow 52
  have AD := fun v v' W (k : NumZ W v ((frac b : Nat) : Int)) (k' : NumZ W v' ((2 ^ 52 : Nat) : Int)) => addZ_any ((frac b : Nat) : Int) ((2 ^ 52 : Nat) : Int) (by rw [Int.natAbs_natCast]; omega) (by rw [Int.natAbs_natCast]; omega) v v' W k k'
  have wl : (sizeL (whole b)).length ≤ 53 := sizeL_length 53 _ (by have := whole_lt b; omega)
  have PW : ∀ sh : Nat, sh ≤ 2200 → ∀ W p, p = (sh : Int) → Calls Try.prog 45 #[.int .i64 p] W (RetZ W ((2 ^ sh : Nat) : Int)) := fun sh hsh W p hp => by rw [hp]; exact pow_any sh (by omega) W
  have ML : ∀ sh : Nat, sh ≤ 2200 → ∀ v v' W, NumZ W v ((whole b : Nat) : Int) → NumZ W v' ((2 ^ sh : Nat) : Int) → Calls Try.prog 44 #[v, v'] W (RetZ W (((whole b : Nat) : Int) * ((2 ^ sh : Nat) : Int))) := fun sh hsh v v' W k k' =>
    mulZ_any _ _ (by rw [Int.natAbs_natCast, Int.natAbs_natCast]; have := size_pow sh; omega) v v' W k k'
  have hbl := below_iff b hb
  by_cases g : expo b = 0
  · have hw : whole b = frac b := by unfold whole; rw [if_pos g]
    have hl : (126 : Nat) = 126 + lift b := by unfold lift; omega
    rw [hw] at ML
    rw [parts_eq b 126 hl, hw]
    by_cases k : 9223372036854775808 ≤ b
    · rw [hbl, decide_eq_true k, if_pos rfl]
      exact parts_dn b (expo b) (frac b) 126 g (by omega) rfl (by omega) E F S P52 AD (PW 126 (by decide)) (ML 126 (by decide)) w
    · rw [hbl, decide_eq_false k, if_neg (by decide)]
      exact parts_dp b (expo b) (frac b) 126 g (by omega) rfl (by omega) E F S P52 AD (PW 126 (by decide)) (ML 126 (by decide)) w
  · have hw : ((whole b : Nat) : Int) = ((frac b : Nat) : Int) + ((2 ^ 52 : Nat) : Int) := by unfold whole; rw [if_neg g, p52_nat]; omega
    have hl : 125 + expo b = 126 + lift b := by unfold lift; omega
    rw [hw] at ML
    rw [parts_eq b (125 + expo b) hl, hw]
    by_cases k : 9223372036854775808 ≤ b
    · rw [hbl, decide_eq_true k, if_pos rfl]
      exact parts_un b (expo b) (frac b) (125 + expo b) (by omega) (by omega) rfl (by omega) E F S P52 AD (PW _ (by omega)) (ML _ (by omega)) w
    · rw [hbl, decide_eq_false k, if_neg (by decide)]
      exact parts_up b (expo b) (frac b) (125 + expo b) (by omega) (by omega) rfl (by omega) E F S P52 AD (PW _ (by omega)) (ML _ (by omega)) w
theorem scaled_len (b : Nat) : (sizeL (scaled126 b).natAbs).length ≤ 2300 := by
  have e : (scaled126 b).natAbs = whole b * 2 ^ (126 + lift b) := by
    rw [parts_eq b _ rfl]
    split
    · rw [Int.natAbs_neg, ← Int.natCast_mul, Int.natAbs_natCast]
    · rw [← Int.natCast_mul, Int.natAbs_natCast]
  rw [e]
  have h1 := size_mul (whole b) (2 ^ (126 + lift b))
  have h2 : (sizeL (whole b)).length ≤ 53 := sizeL_length 53 _ (by have := whole_lt b; omega)
  have h3 := size_pow (126 + lift b)
  have h4 := lift_lt b
  omega
theorem scaled_lt (a b : Nat) : scaled126 a < scaled126 b ↔ exact a < exact b := by
  unfold scaled126
  have hp : (0 : Int) < ((2 ^ 126 : Nat) : Int) := by have := Nat.two_pow_pos 126; omega
  exact ⟨fun h => Int.lt_of_mul_lt_mul_right h (Int.le_of_lt hp), fun h => Int.mul_lt_mul_of_pos_right h hp⟩

set_option maxRecDepth 100000 in
set_option maxHeartbeats 4000000 in
theorem ro_nan (a b : Nat) (ka kb : Int) (h : ka = 1 ∨ ka ≠ 1 ∧ kb = 1) (KA : ∀ W, Calls Try.prog 16 #[.int .u64 a] W fun e w' => e = .returned (.int .i64 ka) ∧ w' = W) (KB : ∀ W, Calls Try.prog 16 #[.int .u64 b] W fun e w' => e = .returned (.int .i64 kb) ∧ w' = W) (w : World) :
    Calls Try.prog 24 #[.int .u64 a, .int .u64 b] w (Ret w (.tuple #[.int .i64 0, .bool false])) := by
  replace KA := Lib.hid KA
  replace KB := Lib.hid KB
  rcases h with rfl | ⟨h1, rfl⟩
  · go_enter Try.func24, Try.ntmps24
    go_wp2_with fail
    refine (KA.out _).mono ?_
    rintro en w' ⟨rfl, hw'⟩; subst w'
    go_wp2_with fail
    go_ret2
    exact ⟨rfl, Below.refl _ _⟩
  · have k1 : (ka == 1) = false := by simpa using h1
    clear h1
    go_enter Try.func24, Try.ntmps24
    go_wp2_with fail
    refine (KA.out _).mono ?_
    rintro en w' ⟨rfl, hw'⟩; subst w'
    go_wp2_with fail
    refine (KB.out _).mono ?_
    rintro en w' ⟨rfl, hw'⟩; subst w'
    go_wp2_with fail
    go_ret2
    exact ⟨rfl, Below.refl _ _⟩
set_option maxRecDepth 100000 in
set_option maxHeartbeats 4000000 in
theorem ro_num (a b : Nat) (ka kb x y : Int) (r : Int) (h1 : ka ≠ 1) (h2 : kb ≠ 1) (KA : ∀ W, Calls Try.prog 16 #[.int .u64 a] W fun e w' => e = .returned (.int .i64 ka) ∧ w' = W) (KB : ∀ W, Calls Try.prog 16 #[.int .u64 b] W fun e w' => e = .returned (.int .i64 kb) ∧ w' = W)
    (PA : ∀ W, Calls Try.prog 27 #[.int .u64 a] W (RetZ W x)) (PB : ∀ W, Calls Try.prog 27 #[.int .u64 b] W (RetZ W y))
    (LX : ∀ v v' W, NumZ W v x → NumZ W v' y → Calls Try.prog 46 #[v, v'] W (Ret W (.bool (decide (x < y))))) (LY : ∀ v v' W, NumZ W v x → NumZ W v' y → Calls Try.prog 46 #[v', v] W (Ret W (.bool (decide (y < x)))))
    (hr : r = if x < y then -1 else if y < x then 1 else 0) (w : World) :
    Calls Try.prog 24 #[.int .u64 a, .int .u64 b] w (Ret w (.tuple #[.int .i64 r, .bool true])) := by
  replace KA := Lib.hid KA
  replace KB := Lib.hid KB
  replace PA := Lib.hid PA
  replace PB := Lib.hid PB
  replace LX := Lib.hid LX
  replace LY := Lib.hid LY
  have k1 : (ka == 1) = false := by simpa using h1
  have k2 : (kb == 1) = false := by simpa using h2
  clear h1 h2
  have key : decide (x < y) = true ∧ r = -1 ∨ decide (x < y) = false ∧ decide (y < x) = true ∧ r = 1 ∨ decide (x < y) = false ∧ decide (y < x) = false ∧ r = 0 := by
    rw [hr]
    by_cases c1 : x < y
    · exact Or.inl ⟨decide_eq_true c1, if_pos c1⟩
    · rw [if_neg c1]
      by_cases c2 : y < x
      · exact Or.inr (Or.inl ⟨decide_eq_false c1, decide_eq_true c2, if_pos c2⟩)
      · exact Or.inr (Or.inr ⟨decide_eq_false c1, decide_eq_false c2, if_neg c2⟩)
  clear hr
  generalize decide (x < y) = dx at *
  generalize decide (y < x) = dy at *
  go_enter Try.func24, Try.ntmps24
  go_wp2_with fail
  refine (KA.out _).mono ?_
  rintro en w' ⟨rfl, hw'⟩; subst w'
  go_wp2_with fail
  refine (KB.out _).mono ?_
  rintro en w' ⟨rfl, hw'⟩; subst w'
  go_wp2_with fail
  refine (PA.out _).mono ?_
  rintro en w1 ⟨b1, A1, n1, c1, rfl, hb1, hz1⟩
  replace hz1 := Lib.hid hz1
  replace hb1 := Lib.hid hb1
  go_wp2_with fail
  refine (PB.out _).mono ?_
  rintro en w2 ⟨b2, A2, n2, c2, rfl, hb2, hz2⟩
  have HX := Lib.hid (((hz1.out.below hb2).below (below_alloc w2 (.cells #[.bool b1, .slice A1 n1 c1] 59))).below (below_alloc _ (.cells #[.bool b2, .slice A2 n2 c2] 59)))
  have HY := Lib.hid ((hz2.below (below_alloc w2 (.cells #[.bool b1, .slice A1 n1 c1] 59))).below (below_alloc _ (.cells #[.bool b2, .slice A2 n2 c2] 59)))
  have HB := Lib.hid (below_then (below_then (below_then hb1.out hb2) (below_alloc w2 (.cells #[.bool b1, .slice A1 n1 c1] 59))) (below_alloc _ (.cells #[.bool b2, .slice A2 n2 c2] 59)))
  clear hb2 hz2 hz1 hb1
  go_wp2_with fail
  refine (LX.out _ _ _ HX.out HY.out).mono ?_
  rintro en w3 ⟨rfl, hb3⟩
  rcases key with ⟨rfl, rfl⟩ | ⟨rfl, rfl, rfl⟩ | ⟨rfl, rfl, rfl⟩
  · have HE := Lib.hid (below_then HB.out hb3)
    clear hb3
    go_wp2_with fail
    go_ret2
    exact ⟨rfl, HE.out⟩
  all_goals
    have hHeld : Keeps w [(w2.heap.size, 0, .bool b1), (w2.heap.size, 1, .slice A1 n1 c1), (w2.heap.size + 1, 0, .bool b2), (w2.heap.size + 1, 1, .slice A2 n2 c2)] w3 :=
      Keeps.next (by exact ⟨HB.out, ⟨by simp <;> omega, by simp [go_sem], by simp [go_sem]⟩, ⟨by simp <;> omega, by simp [go_sem], by simp [go_sem]⟩, ⟨by simp <;> omega, by simp [go_sem], by simp [go_sem]⟩, ⟨by simp <;> omega, by simp [go_sem], by simp [go_sem]⟩, trivial⟩) hb3
    have HX3 := Lib.hid (HX.out.below hb3)
    have HY3 := Lib.hid (HY.out.below hb3)
    obtain ⟨⟨kz0, kc0, kf0⟩, ⟨kz1, kc1, kf1⟩, ⟨kz2, kc2, kf2⟩, ⟨kz3, kc3, kf3⟩, _⟩ := hHeld.2
    clear hb3 HX HY
    go_wp2_with fail
    refine (LY.out _ _ _ HX3.out HY3.out).mono ?_
    rintro en w4 ⟨rfl, hb4⟩
    have HE := Lib.hid (below_then hHeld.1 hb4)
    clear hb4
    go_wp2_with fail
    go_ret2
    exact ⟨rfl, HE.out⟩
theorem refOrder_any (a b : Nat) (ha : a < 18446744073709551616) (hb : b < 18446744073709551616) (w : World) : Calls Try.prog 24 #[.int .u64 a, .int .u64 b] w (Ret w (.tuple #[.int .i64 (ordN a b), .bool (ordB a b)])) := by
  have KA := fun W => refKind_any a ha W
  have KB := fun W => refKind_any b hb W
  unfold ordN ordB
  by_cases ka : kindF a = 1
  · have : nanF a = true := by simp [nanF, ka]
    rw [this]
    exact ro_nan a b _ _ (Or.inl ka) KA KB w
  · by_cases kb : kindF b = 1
    · have : nanF b = true := by simp [nanF, kb]
      rw [this, Bool.or_true]
      exact ro_nan a b _ _ (Or.inr ⟨ka, kb⟩) KA KB w
    · have fa : nanF a = false := by simp [nanF, ka]
      have fb : nanF b = false := by simp [nanF, kb]
      rw [fa, fb]
      have la := scaled_len a
      have lb := scaled_len b
      refine ro_num a b _ _ (scaled126 a) (scaled126 b) _ ka kb KA KB (fun W => refParts_any a ha W) (fun W => refParts_any b hb W)
        (fun v v' W k k' => lessZ_any _ _ (by omega) (by omega) v v' W k k') (fun v v' W k k' => lessZ_any _ _ (by omega) (by omega) v' v W k' k) ?_ w
      simp only [Bool.or_self, Bool.false_eq_true, if_false, scaled_lt]
set_option maxRecDepth 100000 in
set_option maxHeartbeats 2000000 in
theorem orders_any (a b : Nat) (ha : a < 18446744073709551616) (hb : b < 18446744073709551616) (w : World) : Calls Try.prog 6 #[.int .u64 a, .int .u64 b] w (Ret w (.bool true)) := by
  have W1 := Lib.hid (fun W => wakes_any W)
  have q0 := Lib.hid (frombits_run a)
  have q1 := Lib.hid (frombits_run b)
  have O1 := Lib.hid (fun W => order_any a b ha hb W)
  have O2 := Lib.hid (fun W => refOrder_any a b ha hb W)
  generalize ordB a b = ob at *
  generalize ordN a b = on at *
  clear ha hb
  go_enter Try.func6, Try.ntmps6
  go_wp2_with fail
  refine (W1.out _).mono ?_
  rintro en w1 ⟨rfl, hb1⟩
  replace hb1 := Lib.hid hb1
  go_wp2_with (first | (simp only [q0.out]) | (simp only [q1.out]))
  refine (O1.out _).mono ?_
  rintro en w2 ⟨rfl, hb2⟩
  have B2 := Lib.hid (under hb1.out hb2)
  clear hb2
  go_wp2_with fail
  refine (O2.out _).mono ?_
  rintro en w3 ⟨rfl, hb3⟩
  have B3 := Lib.hid (under B2.out hb3)
  clear hb3
  go_wp2_with fail
  go_ret
  exact ⟨rfl, B3.out⟩
end Go.Proofs.Ytpldkccjhplipaa
