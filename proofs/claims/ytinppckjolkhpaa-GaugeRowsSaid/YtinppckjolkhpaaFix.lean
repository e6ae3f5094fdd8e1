/-
  Layer 3: a reading's parts and its value. Conditions: those written at each fact.
-/
import Derived.Test.YtinppckjolkhpaaKind
import Derived.Laws.Bits64b
namespace Go.Proofs.Ytinppckjolkhpaa
open Go.RowKit Go.Shelf

theorem or_hidden (f : Nat) (h : f < 4503599627370496) : bits .or .u64 4503599627370496 (f : Int) = ((4503599627370496 + f : Nat) : Int) := by
  have e := bits_or_u64_nat 4503599627370496 f (by decide) (by omega)
  rw [show ((4503599627370496 : Nat) : Int) = 4503599627370496 from rfl] at e
  rw [e]
  have := Nat.two_pow_add_eq_or_of_lt (show f < 2 ^ 52 by omega) 1
  rw [Nat.mul_one] at this
  rw [← this]
set_option maxRecDepth 100000 in
set_option maxHeartbeats 1000000 in
theorem digits_any (s : Bool) (e f : Nat) (k : Int) (he : e < 2048) (hf : f < 4503599627370496) (w : World) :
    Calls Try.prog 44 #[readV s e f k] w (Ret w (.tuple #[.int .u64 (if e = 0 then (f : Nat) else (4503599627370496 + f : Nat)), .int .i64 (((e - 1 : Nat) : Int) - 1074)])) := by
  by_cases g : e = 0
  · subst g
    rw [if_pos rfl]
    clear hf he
    go_enter Try.func44, Try.ntmps44
    go_wp2
    go_ret2
    exact ⟨rfl, by go_grown⟩
  · rw [if_neg g]
    have e1 := or_hidden f hf
    obtain ⟨y, hy⟩ : ∃ y, 4503599627370496 + f = y := ⟨_, rfl⟩
    rw [hy] at e1 ⊢
    clear hy
    have k1 : ((e : Int) == 0) = false := by simp; omega
    have e2 : ((e - 1 : Nat) : Int) - 1074 = (e : Int) - 1075 := by omega
    rw [e2]
    have e3 : IntKind.i64.wrap ((e : Int) - 1075) = (e : Int) - 1075 := by rw [IntKind.wrap_i64]; omega
    have c0 : (w.alloc (.cells #[.bool s, .int .i64 e, .int .u64 f, .int .i64 k] 54)).cell? ⟨w.heap.size, 1, none⟩ = some (.int .i64 e) := by simp [go_sem]
    have c1 : (w.alloc (.cells #[.bool s, .int .i64 e, .int .u64 f, .int .i64 k] 54)).cell? ⟨w.heap.size, 2, none⟩ = some (.int .u64 f) := by simp [go_sem]
    clear hf e2
    go_enter Try.func44, Try.ntmps44
    go_wp2
    go_quiet (fail)
    go_wp2
    go_ret2
    exact ⟨rfl, drewN_below (by go_grown) _⟩

/-- What a reading's value is told to be: how far, whether it fits, and of which side. -/
def tellV (far : Nat) (fits sb : Bool) : Int := if fits && decide (far ≤ 2305843009213693952) then (if sb then -(far : Int) else far) else 0
def tellE (far : Nat) (fits : Bool) : Int := if fits && decide (far ≤ 2305843009213693952) then 0 else 5
set_option maxRecDepth 100000 in
set_option maxHeartbeats 2000000 in
theorem value_num (sb : Bool) (e f : Nat) (k : Int) (x : Nat) (P s : Int) (y : Nat) (t : Bool) (hk1 : k ≠ 1) (hk2 : k ≠ 2) (hP1 : -1074 ≤ P) (hP2 : P ≤ 1000) (hs1 : -40 ≤ s) (hs2 : s ≤ 40)
    (DG : ∀ W, Calls Try.prog 44 #[readV sb e f k] W (Ret W (.tuple #[.int .u64 x, .int .i64 P])))
    (SH : ∀ W, Calls Try.prog 45 #[.int .u64 x, .int .i64 (P + s)] W (Ret W (.tuple #[.int .u64 y, .bool t]))) (w : World) :
    Calls Try.prog 20 #[readV sb e f k, .int .i64 s] w (Ret w (.tuple #[.int .i64 (tellV y t sb), .int .i64 (tellE y t)])) := by
  have k1 : (k == 1) = false := by simpa using hk1
  have k2 : (k == 2) = false := by simpa using hk2
  have DG := Lib.hid DG
  have SH := Lib.hid SH
  unfold tellV tellE
  cases t
  · simp only [Bool.false_and, Bool.false_eq_true, if_false]
    go_enter Try.func20, Try.ntmps20
    go_wp2_with fail
    refine (DG.out _).mono ?_
    rintro e w1 ⟨rfl, hb⟩
    have hHeld : Keeps w [(w.heap.size, 0, .bool sb), (w.heap.size, 1, .int .i64 e), (w.heap.size, 2, .int .u64 f), (w.heap.size, 3, .int .i64 k)] _ := Keeps.next (by refine ⟨by go_grown, ?_⟩; simp [Cells, go_sem]) hb
    clear hb
    obtain ⟨⟨kz0, kc0, kf0⟩, ⟨kz1, kc1, kf1⟩, ⟨kz2, kc2, kf2⟩, ⟨kz3, kc3, kf3⟩, _⟩ := hHeld.2
    go_wp2_with fail
    refine (SH.out _).mono ?_
    rintro e w2 ⟨rfl, hb⟩
    replace hHeld := Keeps.next (hHeld) hb
    clear hb kz0 kc0 kf0 kz1 kc1 kf1 kz2 kc2 kf2 kz3 kc3 kf3
    obtain ⟨⟨kz0, kc0, kf0⟩, ⟨kz1, kc1, kf1⟩, ⟨kz2, kc2, kf2⟩, ⟨kz3, kc3, kf3⟩, _⟩ := hHeld.2
    go_wp2_with fail
    go_ret2
    exact ⟨rfl, hHeld.1⟩
  · by_cases g : y ≤ 2305843009213693952
    · rw [decide_eq_true g]
      have g1 : (y : Int) ≤ 2305843009213693952 := by omega
      simp only [Bool.true_and, if_true]
      cases sb
      · simp only [Bool.false_eq_true, if_false]
        go_enter Try.func20, Try.ntmps20
        go_wp2_with fail
        refine (DG.out _).mono ?_
        rintro e w1 ⟨rfl, hb⟩
        have hHeld : Keeps w [(w.heap.size, 0, .bool false), (w.heap.size, 1, .int .i64 e), (w.heap.size, 2, .int .u64 f), (w.heap.size, 3, .int .i64 k)] _ := Keeps.next (by refine ⟨by go_grown, ?_⟩; simp [Cells, go_sem]) hb
        clear hb
        obtain ⟨⟨kz0, kc0, kf0⟩, ⟨kz1, kc1, kf1⟩, ⟨kz2, kc2, kf2⟩, ⟨kz3, kc3, kf3⟩, _⟩ := hHeld.2
        go_wp2_with fail
        refine (SH.out _).mono ?_
        rintro e w2 ⟨rfl, hb⟩
        replace hHeld := Keeps.next (hHeld) hb
        clear hb kz0 kc0 kf0 kz1 kc1 kf1 kz2 kc2 kf2 kz3 kc3 kf3
        obtain ⟨⟨kz0, kc0, kf0⟩, ⟨kz1, kc1, kf1⟩, ⟨kz2, kc2, kf2⟩, ⟨kz3, kc3, kf3⟩, _⟩ := hHeld.2
        go_wp2_with fail
        go_ret2
        exact ⟨rfl, hHeld.1⟩
      · simp only [if_true]
        go_enter Try.func20, Try.ntmps20
        go_wp2_with fail
        refine (DG.out _).mono ?_
        rintro e w1 ⟨rfl, hb⟩
        have hHeld : Keeps w [(w.heap.size, 0, .bool true), (w.heap.size, 1, .int .i64 e), (w.heap.size, 2, .int .u64 f), (w.heap.size, 3, .int .i64 k)] _ := Keeps.next (by refine ⟨by go_grown, ?_⟩; simp [Cells, go_sem]) hb
        clear hb
        obtain ⟨⟨kz0, kc0, kf0⟩, ⟨kz1, kc1, kf1⟩, ⟨kz2, kc2, kf2⟩, ⟨kz3, kc3, kf3⟩, _⟩ := hHeld.2
        go_wp2_with fail
        refine (SH.out _).mono ?_
        rintro e w2 ⟨rfl, hb⟩
        replace hHeld := Keeps.next (hHeld) hb
        clear hb kz0 kc0 kf0 kz1 kc1 kf1 kz2 kc2 kf2 kz3 kc3 kf3
        obtain ⟨⟨kz0, kc0, kf0⟩, ⟨kz1, kc1, kf1⟩, ⟨kz2, kc2, kf2⟩, ⟨kz3, kc3, kf3⟩, _⟩ := hHeld.2
        go_wp2_with fail
        go_ret2
        exact ⟨rfl, hHeld.1⟩
    · rw [decide_eq_false g]
      have g1 : ¬ ((y : Int) ≤ 2305843009213693952) := by omega
      have g2 : (2305843009213693952 : Int) < (y : Int) := by omega
      simp only [Bool.and_false, Bool.false_eq_true, if_false]
      go_enter Try.func20, Try.ntmps20
      go_wp2_with fail
      refine (DG.out _).mono ?_
      rintro e w1 ⟨rfl, hb⟩
      have hHeld : Keeps w [(w.heap.size, 0, .bool sb), (w.heap.size, 1, .int .i64 e), (w.heap.size, 2, .int .u64 f), (w.heap.size, 3, .int .i64 k)] _ := Keeps.next (by refine ⟨by go_grown, ?_⟩; simp [Cells, go_sem]) hb
      clear hb
      obtain ⟨⟨kz0, kc0, kf0⟩, ⟨kz1, kc1, kf1⟩, ⟨kz2, kc2, kf2⟩, ⟨kz3, kc3, kf3⟩, _⟩ := hHeld.2
      go_wp2_with fail
      refine (SH.out _).mono ?_
      rintro e w2 ⟨rfl, hb⟩
      replace hHeld := Keeps.next (hHeld) hb
      clear hb kz0 kc0 kf0 kz1 kc1 kf1 kz2 kc2 kf2 kz3 kc3 kf3
      obtain ⟨⟨kz0, kc0, kf0⟩, ⟨kz1, kc1, kf1⟩, ⟨kz2, kc2, kf2⟩, ⟨kz3, kc3, kf3⟩, _⟩ := hHeld.2
      go_wp2_with fail
      go_ret2
      exact ⟨rfl, hHeld.1⟩
set_option maxRecDepth 100000 in
set_option maxHeartbeats 1000000 in
theorem value_none (sb : Bool) (e f : Nat) (k : Int) (hk : k = 1 ∨ k = 2) (s : Int) (w : World) :
    Calls Try.prog 20 #[readV sb e f k, .int .i64 s] w (Ret w (.tuple #[.int .i64 0, .int .i64 (if k = 1 then 130 else 5)])) := by
  rcases hk with rfl | rfl
  · rw [if_pos rfl]
    go_enter Try.func20, Try.ntmps20
    go_wp2
    go_ret2
    exact ⟨rfl, by go_grown⟩
  · rw [if_neg (by decide)]
    go_enter Try.func20, Try.ntmps20
    go_wp2
    go_ret2
    exact ⟨rfl, by go_grown⟩
theorem whole_lt (b : Nat) : whole b < 9007199254740992 := by have := frac_lt b; unfold whole; split <;> omega
theorem lift_lt (b : Nat) : lift b ≤ 2046 := by have := expo_lt b; unfold lift; omega
theorem whole_ne {b : Nat} (h : lift b ≠ 0) : whole b ≠ 0 := by unfold lift at h; unfold whole; split <;> omega
/-- A reading's value, out of its parts, by a scale that is one. -/
theorem value_any (b : Nat) (s : Int) (hs : Scale s) (w : World) :
    Calls Try.prog 20 #[readV (below b) (expo b) (frac b) (kindF b), .int .i64 s] w (Ret w (.tuple #[.int .i64 (valF b s), .int .i64 (codeF b s)])) := by
  have hE := hs
  obtain ⟨h1, h2⟩ := hs
  by_cases k1 : kindF b = 1
  · have e1 : codeF b s = 130 := by unfold codeF; rw [if_pos hE, if_pos k1]
    have e2 : valF b s = 0 := by unfold valF; rw [if_neg (by omega)]
    have := value_none (below b) (expo b) (frac b) (kindF b) (Or.inl k1) s w
    rw [if_pos k1] at this
    rw [e1, e2]
    exact this
  · by_cases k2 : kindF b = 2
    · have e1 : codeF b s = 5 := by unfold codeF; rw [if_pos hE, if_neg k1, if_pos k2]
      have e2 : valF b s = 0 := by unfold valF; rw [if_neg (by omega)]
      have := value_none (below b) (expo b) (frac b) (kindF b) (Or.inr k2) s w
      rw [if_neg k1] at this
      rw [e1, e2]
      exact this
    · have hl := lift_lt b
      have hl2 : lift b ≤ 2045 := by
        unfold lift; unfold kindF at k1 k2
        have := expo_lt b
        rcases Nat.lt_or_ge (expo b) 2047 with g | g
        · omega
        · have e : expo b = 2047 := by omega
          rw [if_pos e] at k1 k2
          split at k1 <;> simp_all
      have hw := whole_lt b
      have DG : ∀ W, Calls Try.prog 44 #[readV (below b) (expo b) (frac b) (kindF b)] W (Ret W (.tuple #[.int .u64 (whole b), .int .i64 ((lift b : Int) - 1074)])) := by
        intro W
        have := digits_any (below b) (expo b) (frac b) (kindF b) (expo_lt b) (frac_lt b) W
        have ew : (if expo b = 0 then ((frac b : Nat) : Int) else ((4503599627370496 + frac b : Nat) : Int)) = (whole b : Int) := by unfold whole; split <;> rfl
        rw [ew, show ((expo b - 1 : Nat) : Int) = (lift b : Int) by unfold lift; rfl] at this
        exact this
      have ec : ∀ m : Nat, magF b s = m → codeF b s = if 2305843009213693952 < m then 5 else 0 := by
        intro m hm
        unfold codeF
        rw [if_pos hE, if_neg k1, if_neg k2, hm]
      by_cases g : (lift b : Int) - 1074 + s < 0
      · obtain ⟨n, hn⟩ : ∃ n : Nat, (lift b : Int) - 1074 + s = -(n : Int) := ⟨(-((lift b : Int) - 1074 + s)).toNat, by omega⟩
        have hm := mag_neg hE hn
        have SH := fun W => shifted_neg (whole b) n (by omega) (by omega) (by omega) W
        rw [← hn, ← hm] at SH
        have key := value_num (below b) (expo b) (frac b) (kindF b) (whole b) _ s _ _ k1 k2 (by omega) (by omega) h1 h2 DG SH w
        have e1 : tellE (magF b s) true = codeF b s := by rw [ec _ rfl, tellE, Bool.true_and]; simp only [decide_eq_true_eq]; split <;> split <;> first | rfl | omega
        have e2 : tellV (magF b s) true (below b) = valF b s := by
          rw [tellV, valF, ec _ rfl, Bool.true_and]
          simp only [decide_eq_true_eq]
          by_cases q : magF b s ≤ 2305843009213693952
          · rw [if_pos q, if_neg (show ¬ (2305843009213693952 < magF b s) by omega), if_pos rfl]
          · rw [if_neg q, if_pos (show 2305843009213693952 < magF b s by omega), if_neg (by decide)]
        rw [← e1, ← e2]
        exact key
      · obtain ⟨n, hn⟩ : ∃ n : Nat, (lift b : Int) - 1074 + s = (n : Int) := ⟨((lift b : Int) - 1074 + s).toNat, by omega⟩
        have hm := mag_pos hE hn
        have w0 : whole b ≠ 0 := whole_ne (by omega)
        by_cases q : Lib.bitLen (whole b) + n ≤ 64
        · have SH := fun W => shifted_pos (whole b) n (by omega) (by omega) true (decide_eq_true q) W
          have fy := fits_yes (show whole b < 18446744073709551616 by omega) q
          have hb := bitLen_64 (whole b) (by omega)
          have hb1 := (bitLen_spec (whole b) (by omega)).2 w0
          have ey : IntKind.u64.wrap ((whole b : Int) * 2 ^ min n 64) = (magF b s : Int) := by
            rw [hm, Nat.min_eq_left (by omega), IntKind.wrap_u64]
            have : ((whole b : Int)) * 2 ^ n = ((whole b * 2 ^ n : Nat) : Int) := by simp
            rw [this]
            omega
          rw [← hn, ey] at SH
          have key := value_num (below b) (expo b) (frac b) (kindF b) (whole b) _ s _ _ k1 k2 (by omega) (by omega) h1 h2 DG SH w
          have e1 : tellE (magF b s) true = codeF b s := by rw [ec _ rfl, tellE, Bool.true_and]; simp only [decide_eq_true_eq]; split <;> split <;> first | rfl | omega
          have e2 : tellV (magF b s) true (below b) = valF b s := by
            rw [tellV, valF, ec _ rfl, Bool.true_and]
            simp only [decide_eq_true_eq]
            by_cases q : magF b s ≤ 2305843009213693952
            · rw [if_pos q, if_neg (show ¬ (2305843009213693952 < magF b s) by omega), if_pos rfl]
            · rw [if_neg q, if_pos (show 2305843009213693952 < magF b s by omega), if_neg (by decide)]
          rw [← e1, ← e2]
          exact key
        · have SH := fun W => shifted_pos (whole b) n (by omega) (by omega) false (decide_eq_false q) W
          have fn := fits_no (show whole b < 18446744073709551616 by omega) w0 (show 64 < Lib.bitLen (whole b) + n by omega)
          obtain ⟨y, hy⟩ : ∃ y : Nat, IntKind.u64.wrap ((whole b : Int) * 2 ^ min n 64) = (y : Int) := by
            have := wrap_u64_nonneg ((whole b : Int) * 2 ^ min n 64)
            exact ⟨_, (Int.toNat_of_nonneg this).symm⟩
          rw [← hn, hy] at SH
          have key := value_num (below b) (expo b) (frac b) (kindF b) (whole b) _ s _ _ k1 k2 (by omega) (by omega) h1 h2 DG SH w
          have e0 : codeF b s = 5 := by rw [ec _ hm, if_pos (by omega)]
          have e1 : tellE y false = codeF b s := by rw [e0]; rfl
          have e2 : tellV y false (below b) = valF b s := by unfold valF; rw [e0, if_neg (by decide)]; rfl
          rw [← e1, ← e2]
          exact key

abbrev fl (b : Nat) : Value := .float .f64 b
theorem bits_run (b : Nat) (w : World) : (callFunc 42 #[.float .f64 b]).run Try.prog w = .ok (.value (.int .u64 b)) w := by
  rw [run_callFunc_extern Try.func42 (by kernel_rfl) (by kernel_rfl) (by kernel_rfl) (e := Extern.MathFloatBits.float64bits) (by kernel_rfl)]
  rfl
theorem frombits_run (b : Nat) (w : World) : (callFunc 6 #[.int .u64 b]).run Try.prog w = .ok (.value (.float .f64 b)) w := by
  rw [run_callFunc_extern Try.func6 (by kernel_rfl) (by kernel_rfl) (by kernel_rfl) (e := Extern.MathFloatBits.float64frombits) (by kernel_rfl)]
  rfl
theorem expo_bits (b : Nat) (hb : b < 18446744073709551616) : bits .and .u64 ((b : Int) / 4503599627370496) 2047 = (expo b : Int) := by
  have e := bits_and_u64_nat (b / 4503599627370496) 2047 (by omega) (by decide)
  have e2 := Nat.and_two_pow_sub_one_eq_mod (b / 4503599627370496) 11
  rw [show 2 ^ 11 - 1 = 2047 from rfl, show 2 ^ 11 = 2048 from rfl] at e2
  rw [e2] at e
  rw [show ((2047 : Nat) : Int) = 2047 from rfl] at e
  unfold expo
  rw [← e]
  simp
theorem frac_bits (b : Nat) (hb : b < 18446744073709551616) : bits .and .u64 (b : Int) 4503599627370495 = (frac b : Int) := by
  have e := bits_and_u64_nat b 4503599627370495 hb (by decide)
  have e2 := Nat.and_two_pow_sub_one_eq_mod b 52
  rw [show 2 ^ 52 - 1 = 4503599627370495 from rfl, show 2 ^ 52 = 4503599627370496 from rfl] at e2
  rw [e2] at e
  rw [show ((4503599627370495 : Nat) : Int) = 4503599627370495 from rfl] at e
  unfold frac
  rw [← e]
theorem below_bits (b : Nat) : ((b : Int) / 9223372036854775808 == 1) = below b := by
  unfold below
  rw [Bool.eq_iff_iff]; simp; omega
end Go.Proofs.Ytinppckjolkhpaa
