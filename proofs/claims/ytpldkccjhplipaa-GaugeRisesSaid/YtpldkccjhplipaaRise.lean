/-
  Layer 3: the law GaugeRises, its walk. Conditions: those written at each fact.
-/
import Derived.Test.YtpldkccjhplipaaMid
namespace Go.Proofs.Ytpldkccjhplipaa
open Go.RowKit Go.Shelf

theorem xor_low (a : Nat) (h : a < 9223372036854775808) : a ^^^ 9223372036854775808 = a + 9223372036854775808 := by
  have e := Nat.two_pow_add_eq_or_of_lt (show a < 2 ^ 63 by omega) 1
  rw [show 2 ^ 63 * 1 = 2 ^ 63 from rfl] at e
  have : a ^^^ 2 ^ 63 = 2 ^ 63 + a := by
    rw [e]
    refine Nat.eq_of_testBit_eq fun i => ?_
    rw [Nat.testBit_xor, Nat.testBit_or, Nat.testBit_two_pow]
    by_cases g : 63 = i
    · subst g
      rw [Nat.testBit_lt_two_pow (show a < 2 ^ 63 by omega)]
      rfl
    · simp [g]
  rw [show (9223372036854775808 : Nat) = 2 ^ 63 from rfl, this, Nat.add_comm]
/-- A reading, turned round. -/
def turn (a : Nat) : Nat := if a < 9223372036854775808 then a + 9223372036854775808 else a - 9223372036854775808
theorem xor_turn (a : Nat) (h : a < 18446744073709551616) : bits .xor .u64 (a : Int) 9223372036854775808 = (turn a : Int) := by
  have e := bits_xor_u64_nat a 9223372036854775808 h (by decide)
  rw [show ((9223372036854775808 : Nat) : Int) = 9223372036854775808 from rfl] at e
  rw [e]
  congr 1
  unfold turn
  split
  · exact xor_low a (by assumption)
  · obtain ⟨c, rfl⟩ : ∃ c, a = c + 9223372036854775808 := ⟨a - 9223372036854775808, by omega⟩
    rw [← xor_low c (by omega), Nat.xor_assoc, Nat.xor_self, Nat.xor_zero, xor_low c (by omega), Nat.add_sub_cancel]
theorem turn_parts (a : Nat) (h : a < 18446744073709551616) : turn a < 18446744073709551616 ∧ below (turn a) = !(below a) ∧ expo (turn a) = expo a ∧ frac (turn a) = frac a := by
  unfold turn below expo frac
  split
  · refine ⟨by omega, ?_, by omega, by omega⟩
    rw [decide_eq_true (show (a + 9223372036854775808) / 9223372036854775808 = 1 by omega), decide_eq_false (show ¬ a / 9223372036854775808 = 1 by omega)]
    rfl
  · refine ⟨by omega, ?_, by omega, by omega⟩
    rw [decide_eq_false (show ¬ (a - 9223372036854775808) / 9223372036854775808 = 1 by omega), decide_eq_true (show a / 9223372036854775808 = 1 by omega)]
    rfl
theorem turn_val (a : Nat) (h : a < 18446744073709551616) (s : Int) : codeF (turn a) s = codeF a s ∧ valF (turn a) s = -valF a s := by
  obtain ⟨-, h1, h2, h3⟩ := turn_parts a h
  have hu : unit (turn a) = unit a := by unfold unit whole lift; rw [h2, h3]
  have hm : magF (turn a) s = magF a s := by unfold magF; rw [hu]
  have hk : kindF (turn a) = kindF a := by unfold kindF; rw [h2, h3]
  have hc : codeF (turn a) s = codeF a s := by unfold codeF; rw [hm, hk]
  refine ⟨hc, ?_⟩
  unfold valF
  rw [hc, h1, hm]
  split
  · cases below a <;> simp
  · rfl
theorem ord_turn (a b : Nat) : ordB b a = ordB a b ∧ ordN b a = -ordN a b := by
  unfold ordB ordN
  refine ⟨by rw [Bool.or_comm], ?_⟩
  rw [Bool.or_comm]
  split
  · rfl
  · split <;> split <;> omega
theorem mono_side {A B x y : Nat} {p q : Bool} (m1 : A ≤ B → x ≤ y) (m2 : B ≤ A → y ≤ x) (za : A = 0 → x = 0) (zb : B = 0 → y = 0)
    (h : (if p then -(A : Int) else A) ≤ (if q then -(B : Int) else B)) : (if p then -(x : Int) else x) ≤ (if q then -(y : Int) else y) := by
  cases p <;> cases q
  · have h' : (A : Int) ≤ B := h
    have := m1 (by omega)
    show (x : Int) ≤ y
    omega
  · have h' : (A : Int) ≤ -B := h
    have := za (by omega)
    have := zb (by omega)
    show (x : Int) ≤ -y
    omega
  · show -(x : Int) ≤ y
    omega
  · have h' : -(A : Int) ≤ -B := h
    have := m2 (by omega)
    show -(x : Int) ≤ -y
    omega
theorem val_mono {a b : Nat} {s : Int} (h1 : codeF a s = 0) (h2 : codeF b s = 0) (h : exact a ≤ exact b) : valF a s ≤ valF b s := by
  have z : ∀ c : Nat, unit c = 0 → cutN (unit c) (1074 - s).toNat = 0 := fun c hc => by rw [hc]; exact cutN_small (by have := Nat.two_pow_pos (1074 - s).toNat; omega)
  have e1 : valF a s = if below a then -(cutN (unit a) (1074 - s).toNat : Int) else cutN (unit a) (1074 - s).toNat := by unfold valF magF; rw [if_pos h1]
  have e2 : valF b s = if below b then -(cutN (unit b) (1074 - s).toNat : Int) else cutN (unit b) (1074 - s).toNat := by unfold valF magF; rw [if_pos h2]
  rw [e1, e2]
  unfold exact at h
  exact mono_side (fun hh => cutN_mono hh _) (fun hh => cutN_mono hh _) (z a) (z b) h
/-- What the statement asks of two readings. -/
theorem rises_facts (a b : Nat) (s : Int) :
    ((codeF a s ≠ 0 ∨ codeF b s ≠ 0) → ordB a b = true ∨ ordB a b = false ∧ (kindF a = 1 ∨ kindF a ≠ 1 ∧ kindF b = 1)) ∧
    (codeF a s = 0 → codeF b s = 0 → ordB a b = true ∧ (ordN a b = -1 ∧ valF a s ≤ valF b s ∨ ordN a b = 0 ∧ valF a s = valF b s ∨ ordN a b = 1)) := by
  constructor
  · intro _
    unfold ordB nanF
    by_cases h1 : kindF a = 1
    · simp [h1]
    · by_cases h2 : kindF b = 1 <;> simp [h1, h2]
  · intro h1 h2
    have k : ∀ c, codeF c s = 0 → nanF c = false := by
      intro c hc
      unfold nanF
      rw [decide_eq_false_iff_not]
      intro hk
      unfold codeF at hc
      split at hc
      · omega
      · omega
    have n1 := k a h1
    have n2 := k b h2
    unfold ordB ordN
    rw [n1, n2]
    simp only [Bool.or_self, Bool.false_eq_true, if_false, Bool.not_false, true_and]
    split
    · exact Or.inl ⟨rfl, val_mono h1 h2 (by omega)⟩
    · split
      · exact Or.inr (Or.inr rfl)
      · refine Or.inr (Or.inl ⟨rfl, ?_⟩)
        have := val_mono h1 h2 (by omega)
        have := val_mono h2 h1 (by omega)
        omega
theorem ord_range (a b : Nat) : -1 ≤ ordN a b ∧ ordN a b ≤ 1 := by
  unfold ordN
  split
  · omega
  · split
    · omega
    · split <;> omega
set_option maxRecDepth 100000 in
set_option maxHeartbeats 8000000 in
theorem rises_any (a b : Nat) (ha : a < 18446744073709551616) (hb : b < 18446744073709551616) (n : Int) (h1 : -128 ≤ n) (h2 : n ≤ 127) (w : World) : Calls Try.prog 8 #[.int .u64 a, .int .u64 b, .int .i8 n] w (Ret w (.bool true)) := by
  have SC := Lib.hid (fun W => scaled_any n h1 h2 _ rfl W)
  generalize n.tmod 41 = s at *
  have W1 := Lib.hid (fun W => wakes_any W)
  have q0 := Lib.hid (frombits_run a)
  have q1 := Lib.hid (frombits_run b)
  have q2 := Lib.hid (frombits_run (turn a))
  have F1 := Lib.hid (fun W => fixed_any a ha s W)
  have F2 := Lib.hid (fun W => fixed_any b hb s W)
  have F3 := Lib.hid (fun W => fixed_any (turn a) (turn_parts a ha).1 s W)
  have O1 := Lib.hid (fun W => order_any a b ha hb W)
  have O2 := Lib.hid (fun W => order_any b a hb ha W)
  have K1 := Lib.hid (fun W => kind_any a ha W)
  have K2 := Lib.hid (fun W => kind_any b hb W)
  rw [(turn_val a ha s).1, (turn_val a ha s).2] at F3
  rw [(ord_turn a b).1, (ord_turn a b).2] at O2
  have qx := xor_turn a ha
  obtain ⟨r1, r2⟩ := rises_facts a b s
  obtain ⟨v1, v2⟩ := val_range a s
  obtain ⟨x1, x2⟩ := val_range b s
  obtain ⟨on1, on2⟩ := ord_range a b
  generalize turn a = c at *
  generalize valF a s = v at *
  generalize codeF a s = e at *
  generalize valF b s = x at *
  generalize codeF b s = f at *
  generalize ordB a b = ob at *
  generalize ordN a b = on at *
  generalize kindF a = ka at *
  generalize kindF b = kb at *
  clear ha hb h1 h2
  by_cases ge : e = 0
  · by_cases gf : f = 0
    · obtain ⟨k1, k2⟩ := r2 ge gf
      clear r1 r2
      subst ge gf k1
      rcases k2 with ⟨rfl, k3⟩ | ⟨rfl, rfl⟩ | rfl
      · skip
        go_enter Try.func8, Try.ntmps8
        go_wp2_with fail
        refine (W1.out _).mono ?_
        rintro en w1 ⟨rfl, hb1⟩
        have B1 := Lib.hid hb1
        clear hb1
        go_wp2_with (first | (simp only [q0.out]) | (simp only [q1.out]) | (go_at_call 25; refine (SC.out _).mono ?_; rintro en w' ⟨rfl, rfl⟩))
        refine (F1.out _).mono ?_
        rintro en w2 ⟨rfl, hb2⟩
        have B2 := Lib.hid (under B1.out hb2)
        clear hb2
        go_wp2_with fail
        refine (F2.out _).mono ?_
        rintro en w3 ⟨rfl, hb3⟩
        have B3 := Lib.hid (under B2.out hb3)
        clear hb3
        go_wp2_with (simp only [q2.out])
        refine (F3.out _).mono ?_
        rintro en w4 ⟨rfl, hb4⟩
        have B4 := Lib.hid (under B3.out hb4)
        clear hb4
        go_wp2_with fail
        refine (O1.out _).mono ?_
        rintro en w5 ⟨rfl, hb5⟩
        have B5 := Lib.hid (under B4.out hb5)
        clear hb5
        go_wp2_with fail
        refine (O2.out _).mono ?_
        rintro en w6 ⟨rfl, hb6⟩
        have B6 := Lib.hid (under B5.out hb6)
        clear hb6
        go_wp2_with fail
        go_ret
        exact ⟨rfl, B6.out⟩
      · skip
        go_enter Try.func8, Try.ntmps8
        go_wp2_with fail
        refine (W1.out _).mono ?_
        rintro en w1 ⟨rfl, hb1⟩
        have B1 := Lib.hid hb1
        clear hb1
        go_wp2_with (first | (simp only [q0.out]) | (simp only [q1.out]) | (go_at_call 25; refine (SC.out _).mono ?_; rintro en w' ⟨rfl, rfl⟩))
        refine (F1.out _).mono ?_
        rintro en w2 ⟨rfl, hb2⟩
        have B2 := Lib.hid (under B1.out hb2)
        clear hb2
        go_wp2_with fail
        refine (F2.out _).mono ?_
        rintro en w3 ⟨rfl, hb3⟩
        have B3 := Lib.hid (under B2.out hb3)
        clear hb3
        go_wp2_with (simp only [q2.out])
        refine (F3.out _).mono ?_
        rintro en w4 ⟨rfl, hb4⟩
        have B4 := Lib.hid (under B3.out hb4)
        clear hb4
        go_wp2_with fail
        refine (O1.out _).mono ?_
        rintro en w5 ⟨rfl, hb5⟩
        have B5 := Lib.hid (under B4.out hb5)
        clear hb5
        go_wp2_with fail
        refine (O2.out _).mono ?_
        rintro en w6 ⟨rfl, hb6⟩
        have B6 := Lib.hid (under B5.out hb6)
        clear hb6
        go_wp2_with fail
        go_ret
        exact ⟨rfl, B6.out⟩
      · skip
        go_enter Try.func8, Try.ntmps8
        go_wp2_with fail
        refine (W1.out _).mono ?_
        rintro en w1 ⟨rfl, hb1⟩
        have B1 := Lib.hid hb1
        clear hb1
        go_wp2_with (first | (simp only [q0.out]) | (simp only [q1.out]) | (go_at_call 25; refine (SC.out _).mono ?_; rintro en w' ⟨rfl, rfl⟩))
        refine (F1.out _).mono ?_
        rintro en w2 ⟨rfl, hb2⟩
        have B2 := Lib.hid (under B1.out hb2)
        clear hb2
        go_wp2_with fail
        refine (F2.out _).mono ?_
        rintro en w3 ⟨rfl, hb3⟩
        have B3 := Lib.hid (under B2.out hb3)
        clear hb3
        go_wp2_with (simp only [q2.out])
        refine (F3.out _).mono ?_
        rintro en w4 ⟨rfl, hb4⟩
        have B4 := Lib.hid (under B3.out hb4)
        clear hb4
        go_wp2_with fail
        refine (O1.out _).mono ?_
        rintro en w5 ⟨rfl, hb5⟩
        have B5 := Lib.hid (under B4.out hb5)
        clear hb5
        go_wp2_with fail
        refine (O2.out _).mono ?_
        rintro en w6 ⟨rfl, hb6⟩
        have B6 := Lib.hid (under B5.out hb6)
        clear hb6
        go_wp2_with fail
        go_ret
        exact ⟨rfl, B6.out⟩
    · have k := r1 (Or.inr gf)
      clear r1 r2
      subst ge
      have g1 : (f != 0) = true := by simpa using gf
      clear gf
      rcases k with rfl | ⟨rfl, rfl | ⟨k1, rfl⟩⟩
      · skip
        go_enter Try.func8, Try.ntmps8
        go_wp2_with fail
        refine (W1.out _).mono ?_
        rintro en w1 ⟨rfl, hb1⟩
        have B1 := Lib.hid hb1
        clear hb1
        go_wp2_with (first | (simp only [q0.out]) | (simp only [q1.out]) | (go_at_call 25; refine (SC.out _).mono ?_; rintro en w' ⟨rfl, rfl⟩))
        refine (F1.out _).mono ?_
        rintro en w2 ⟨rfl, hb2⟩
        have B2 := Lib.hid (under B1.out hb2)
        clear hb2
        go_wp2_with fail
        refine (F2.out _).mono ?_
        rintro en w3 ⟨rfl, hb3⟩
        have B3 := Lib.hid (under B2.out hb3)
        clear hb3
        go_wp2_with (simp only [q2.out])
        refine (F3.out _).mono ?_
        rintro en w4 ⟨rfl, hb4⟩
        have B4 := Lib.hid (under B3.out hb4)
        clear hb4
        go_wp2_with fail
        refine (O1.out _).mono ?_
        rintro en w5 ⟨rfl, hb5⟩
        have B5 := Lib.hid (under B4.out hb5)
        clear hb5
        go_wp2_with fail
        refine (O2.out _).mono ?_
        rintro en w6 ⟨rfl, hb6⟩
        have B6 := Lib.hid (under B5.out hb6)
        clear hb6
        go_wp2_with fail
        go_ret
        exact ⟨rfl, B6.out⟩
      · skip
        go_enter Try.func8, Try.ntmps8
        go_wp2_with fail
        refine (W1.out _).mono ?_
        rintro en w1 ⟨rfl, hb1⟩
        have B1 := Lib.hid hb1
        clear hb1
        go_wp2_with (first | (simp only [q0.out]) | (simp only [q1.out]) | (go_at_call 25; refine (SC.out _).mono ?_; rintro en w' ⟨rfl, rfl⟩))
        refine (F1.out _).mono ?_
        rintro en w2 ⟨rfl, hb2⟩
        have B2 := Lib.hid (under B1.out hb2)
        clear hb2
        go_wp2_with fail
        refine (F2.out _).mono ?_
        rintro en w3 ⟨rfl, hb3⟩
        have B3 := Lib.hid (under B2.out hb3)
        clear hb3
        go_wp2_with (simp only [q2.out])
        refine (F3.out _).mono ?_
        rintro en w4 ⟨rfl, hb4⟩
        have B4 := Lib.hid (under B3.out hb4)
        clear hb4
        go_wp2_with fail
        refine (O1.out _).mono ?_
        rintro en w5 ⟨rfl, hb5⟩
        have B5 := Lib.hid (under B4.out hb5)
        clear hb5
        go_wp2_with fail
        refine (O2.out _).mono ?_
        rintro en w6 ⟨rfl, hb6⟩
        have B6 := Lib.hid (under B5.out hb6)
        clear hb6
        go_wp2_with fail
        refine (K1.out _).mono ?_
        rintro en w7 ⟨rfl, hb7⟩
        have B7 := Lib.hid (under B6.out hb7)
        clear hb7
        go_wp2_with fail
        go_ret
        exact ⟨rfl, B7.out⟩
      · have g2 : (ka == 1) = false := by simpa using k1
        go_enter Try.func8, Try.ntmps8
        go_wp2_with fail
        refine (W1.out _).mono ?_
        rintro en w1 ⟨rfl, hb1⟩
        have B1 := Lib.hid hb1
        clear hb1
        go_wp2_with (first | (simp only [q0.out]) | (simp only [q1.out]) | (go_at_call 25; refine (SC.out _).mono ?_; rintro en w' ⟨rfl, rfl⟩))
        refine (F1.out _).mono ?_
        rintro en w2 ⟨rfl, hb2⟩
        have B2 := Lib.hid (under B1.out hb2)
        clear hb2
        go_wp2_with fail
        refine (F2.out _).mono ?_
        rintro en w3 ⟨rfl, hb3⟩
        have B3 := Lib.hid (under B2.out hb3)
        clear hb3
        go_wp2_with (simp only [q2.out])
        refine (F3.out _).mono ?_
        rintro en w4 ⟨rfl, hb4⟩
        have B4 := Lib.hid (under B3.out hb4)
        clear hb4
        go_wp2_with fail
        refine (O1.out _).mono ?_
        rintro en w5 ⟨rfl, hb5⟩
        have B5 := Lib.hid (under B4.out hb5)
        clear hb5
        go_wp2_with fail
        refine (O2.out _).mono ?_
        rintro en w6 ⟨rfl, hb6⟩
        have B6 := Lib.hid (under B5.out hb6)
        clear hb6
        go_wp2_with fail
        refine (K1.out _).mono ?_
        rintro en w7 ⟨rfl, hb7⟩
        have B7 := Lib.hid (under B6.out hb7)
        clear hb7
        go_wp2_with fail
        refine (K2.out _).mono ?_
        rintro en w8 ⟨rfl, hb8⟩
        have B8 := Lib.hid (under B7.out hb8)
        clear hb8
        go_wp2_with fail
        go_ret
        exact ⟨rfl, B8.out⟩
  · have k := r1 (Or.inl ge)
    clear r1 r2
    have g1 : (e != 0) = true := by simpa using ge
    clear ge
    rcases k with rfl | ⟨rfl, rfl | ⟨k1, rfl⟩⟩
    · skip
      go_enter Try.func8, Try.ntmps8
      go_wp2_with fail
      refine (W1.out _).mono ?_
      rintro en w1 ⟨rfl, hb1⟩
      have B1 := Lib.hid hb1
      clear hb1
      go_wp2_with (first | (simp only [q0.out]) | (simp only [q1.out]) | (go_at_call 25; refine (SC.out _).mono ?_; rintro en w' ⟨rfl, rfl⟩))
      refine (F1.out _).mono ?_
      rintro en w2 ⟨rfl, hb2⟩
      have B2 := Lib.hid (under B1.out hb2)
      clear hb2
      go_wp2_with fail
      refine (F2.out _).mono ?_
      rintro en w3 ⟨rfl, hb3⟩
      have B3 := Lib.hid (under B2.out hb3)
      clear hb3
      go_wp2_with (simp only [q2.out])
      refine (F3.out _).mono ?_
      rintro en w4 ⟨rfl, hb4⟩
      have B4 := Lib.hid (under B3.out hb4)
      clear hb4
      go_wp2_with fail
      refine (O1.out _).mono ?_
      rintro en w5 ⟨rfl, hb5⟩
      have B5 := Lib.hid (under B4.out hb5)
      clear hb5
      go_wp2_with fail
      refine (O2.out _).mono ?_
      rintro en w6 ⟨rfl, hb6⟩
      have B6 := Lib.hid (under B5.out hb6)
      clear hb6
      go_wp2_with fail
      go_ret
      exact ⟨rfl, B6.out⟩
    · skip
      go_enter Try.func8, Try.ntmps8
      go_wp2_with fail
      refine (W1.out _).mono ?_
      rintro en w1 ⟨rfl, hb1⟩
      have B1 := Lib.hid hb1
      clear hb1
      go_wp2_with (first | (simp only [q0.out]) | (simp only [q1.out]) | (go_at_call 25; refine (SC.out _).mono ?_; rintro en w' ⟨rfl, rfl⟩))
      refine (F1.out _).mono ?_
      rintro en w2 ⟨rfl, hb2⟩
      have B2 := Lib.hid (under B1.out hb2)
      clear hb2
      go_wp2_with fail
      refine (F2.out _).mono ?_
      rintro en w3 ⟨rfl, hb3⟩
      have B3 := Lib.hid (under B2.out hb3)
      clear hb3
      go_wp2_with (simp only [q2.out])
      refine (F3.out _).mono ?_
      rintro en w4 ⟨rfl, hb4⟩
      have B4 := Lib.hid (under B3.out hb4)
      clear hb4
      go_wp2_with fail
      refine (O1.out _).mono ?_
      rintro en w5 ⟨rfl, hb5⟩
      have B5 := Lib.hid (under B4.out hb5)
      clear hb5
      go_wp2_with fail
      refine (O2.out _).mono ?_
      rintro en w6 ⟨rfl, hb6⟩
      have B6 := Lib.hid (under B5.out hb6)
      clear hb6
      go_wp2_with fail
      refine (K1.out _).mono ?_
      rintro en w7 ⟨rfl, hb7⟩
      have B7 := Lib.hid (under B6.out hb7)
      clear hb7
      go_wp2_with fail
      go_ret
      exact ⟨rfl, B7.out⟩
    · have g2 : (ka == 1) = false := by simpa using k1
      go_enter Try.func8, Try.ntmps8
      go_wp2_with fail
      refine (W1.out _).mono ?_
      rintro en w1 ⟨rfl, hb1⟩
      have B1 := Lib.hid hb1
      clear hb1
      go_wp2_with (first | (simp only [q0.out]) | (simp only [q1.out]) | (go_at_call 25; refine (SC.out _).mono ?_; rintro en w' ⟨rfl, rfl⟩))
      refine (F1.out _).mono ?_
      rintro en w2 ⟨rfl, hb2⟩
      have B2 := Lib.hid (under B1.out hb2)
      clear hb2
      go_wp2_with fail
      refine (F2.out _).mono ?_
      rintro en w3 ⟨rfl, hb3⟩
      have B3 := Lib.hid (under B2.out hb3)
      clear hb3
      go_wp2_with (simp only [q2.out])
      refine (F3.out _).mono ?_
      rintro en w4 ⟨rfl, hb4⟩
      have B4 := Lib.hid (under B3.out hb4)
      clear hb4
      go_wp2_with fail
      refine (O1.out _).mono ?_
      rintro en w5 ⟨rfl, hb5⟩
      have B5 := Lib.hid (under B4.out hb5)
      clear hb5
      go_wp2_with fail
      refine (O2.out _).mono ?_
      rintro en w6 ⟨rfl, hb6⟩
      have B6 := Lib.hid (under B5.out hb6)
      clear hb6
      go_wp2_with fail
      refine (K1.out _).mono ?_
      rintro en w7 ⟨rfl, hb7⟩
      have B7 := Lib.hid (under B6.out hb7)
      clear hb7
      go_wp2_with fail
      refine (K2.out _).mono ?_
      rintro en w8 ⟨rfl, hb8⟩
      have B8 := Lib.hid (under B7.out hb8)
      clear hb8
      go_wp2_with fail
      go_ret
      exact ⟨rfl, B8.out⟩
end Go.Proofs.Ytpldkccjhplipaa
