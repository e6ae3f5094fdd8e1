/-
  Layer 3: the law GaugeFiner, its walk. Conditions: those written at each fact.
-/
import Derived.Test.YtpldkccjhplipaaWak
namespace Go.Proofs.Ytpldkccjhplipaa
open Go.RowKit Go.Shelf

/-- A value is small, and told of its side. -/
theorem val_range (b : Nat) (s : Int) : -2305843009213693952 ≤ valF b s ∧ valF b s ≤ 2305843009213693952 := by
  unfold valF
  split
  · rename_i h
    have hm : magF b s ≤ 2305843009213693952 := by
      unfold codeF at h
      split at h
      · split at h
        · omega
        · split at h
          · omega
          · split at h <;> omega
      · omega
    split <;> omega
  · omega
/-- By a scale that is finer by one. -/
theorem finer_facts (b : Nat) (s : Int) (h1 : -40 ≤ s) (h2 : s ≤ 39) :
    (codeF b s ≠ 0 → codeF b (s + 1) = codeF b s) ∧ (codeF b s = 0 → codeF b (s + 1) ≠ 0 → codeF b (s + 1) = 5 ∧ (1152921504606846976 ≤ valF b s ∨ valF b s ≤ -1152921504606846976)) ∧
      (codeF b s = 0 → codeF b (s + 1) = 0 → -1 ≤ valF b (s + 1) - 2 * valF b s ∧ valF b (s + 1) - 2 * valF b s ≤ 1) := by
  have S1 : Scale s := ⟨h1, by omega⟩
  have S2 : Scale (s + 1) := ⟨by omega, by omega⟩
  have hf : magF b (s + 1) ≤ 2 * magF b s + 1 ∧ 2 * magF b s ≤ magF b (s + 1) + 1 := by
    unfold magF
    have e : (1074 - s).toNat = (1074 - (s + 1)).toNat + 1 := by omega
    rw [e]
    exact cutN_finer _ _
  have ec : ∀ t, Scale t → codeF b t = if kindF b = 1 then 130 else if kindF b = 2 then 5 else if 2305843009213693952 < magF b t then 5 else 0 := fun t ht => by unfold codeF; rw [if_pos ht]
  have ev : ∀ t, codeF b t = 0 → valF b t = if below b then -(magF b t : Int) else magF b t := fun t ht => by unfold valF; rw [if_pos ht]
  have c1 := ec s S1
  have c2 := ec (s + 1) S2
  have v1 := ev s
  have v2 := ev (s + 1)
  clear ec ev
  generalize codeF b s = e at *
  generalize codeF b (s + 1) = f at *
  generalize valF b s = v at *
  generalize valF b (s + 1) = x at *
  generalize magF b s = m at *
  generalize magF b (s + 1) = y at *
  refine ⟨fun h => ?_, fun h g => ?_, fun h g => ?_⟩
  · rw [c1, c2]
    rw [c1] at h
    split
    · rfl
    · split
      · rfl
      · rename_i k1 k2
        rw [if_neg k1, if_neg k2] at h
        split at h
        · rw [if_pos (by omega), if_pos (by assumption)]
        · omega
  · rw [c1] at h
    rw [c2] at g
    rw [c2]
    split at h
    · omega
    · split at h
      · omega
      · rename_i k1 k2
        rw [if_neg k1, if_neg k2] at g ⊢
        split at h
        · omega
        · split at g
          · rename_i q
            rw [if_pos q]
            refine ⟨rfl, ?_⟩
            rw [v1 (by rw [c1, if_neg k1, if_neg k2, if_neg (by assumption)])]
            split <;> omega
          · omega
  · rw [v1 h, v2 g]
    split <;> omega

/-- The scale that the statement takes. -/
def lessS (n : Int) : Int := if n.tmod 41 = 40 then 39 else n.tmod 41
theorem lessS_range (n : Int) : -40 ≤ lessS n ∧ lessS n ≤ 39 := by
  have := tmod_range n
  unfold lessS
  split <;> omega
set_option maxRecDepth 100000 in
set_option maxHeartbeats 4000000 in
theorem finer_any (b : Nat) (hb : b < 18446744073709551616) (n : Int) (h1 : -128 ≤ n) (h2 : n ≤ 127) (w : World) : Calls Try.prog 10 #[.int .u64 b, .int .i8 n] w (Ret w (.bool true)) := by
  have hs := lessS_range n
  obtain ⟨g1, g2, g3⟩ := finer_facts b (lessS n) hs.1 hs.2
  obtain ⟨v1, v2⟩ := val_range b (lessS n)
  obtain ⟨x1, x2⟩ := val_range b (lessS n + 1)
  have q0 := Lib.hid (frombits_run b)
  have F1 := Lib.hid (fun W => fixed_any b hb (lessS n) W)
  have F2 := Lib.hid (fun W (p : Int) (hp : p = lessS n + 1) => (show Calls Try.prog 14 #[fl b, .int .i64 p] W (Ret W (.tuple #[.int .i64 (valF b (lessS n + 1)), .int .i64 (codeF b (lessS n + 1))])) from by rw [hp]; exact fixed_any b hb (lessS n + 1) W))
  have HS : Hid (lessS n = if n.tmod 41 = 40 then 39 else n.tmod 41) := Lib.hid rfl
  obtain ⟨t1, t2⟩ := tmod_range n
  have SC := Lib.hid (fun W => scaled_any n h1 h2 _ rfl W)
  generalize n.tmod 41 = t at *
  generalize lessS n = s at *
  generalize valF b s = v at *
  generalize codeF b s = e at *
  generalize valF b (s + 1) = x at *
  generalize codeF b (s + 1) = f at *
  have W1 := Lib.hid (fun W => wakes_any W)
  clear hb h1 h2
  obtain ⟨s1, s2⟩ := hs
  by_cases ct : t = 40
  · subst ct
    have hs' := HS.out
    rw [if_pos rfl] at hs'
    subst hs'
    clear HS
    by_cases ce : e = 0
    · subst ce
      by_cases cf : f = 0
      · subst cf
        obtain ⟨k1, k2⟩ := g3 rfl rfl
        clear g1 g2 g3
        go_enter Try.func10, Try.ntmps10
        go_wp2_with fail
        refine (W1.out _).mono ?_
        rintro en w1 ⟨rfl, hb1⟩
        have B1 := Lib.hid hb1
        clear hb1
        go_wp2_with (first | (simp only [q0.out]) | (go_at_call 25; refine (SC.out _).mono ?_; rintro en w' ⟨rfl, rfl⟩))
        refine (F1.out _).mono ?_
        rintro en w2 ⟨rfl, hb2⟩
        have B2 := Lib.hid (under B1.out hb2)
        clear hb2
        go_wp2_with fail
        refine (F2.out _ _ (by omega)).mono ?_
        rintro en w3 ⟨rfl, hb3⟩
        have B3 := Lib.hid (under B2.out hb3)
        clear hb3
        go_wp2_with fail
        go_ret
        exact ⟨rfl, B3.out⟩
      · obtain ⟨k1, k2⟩ := g2 rfl cf
        subst k1
        clear g1 g2 g3 cf
        rcases k2 with k2 | k2
        · have k4 : decide (1152921504606846976 ≤ v) = true := decide_eq_true k2
          go_enter Try.func10, Try.ntmps10
          go_wp2_with fail
          refine (W1.out _).mono ?_
          rintro en w1 ⟨rfl, hb1⟩
          have B1 := Lib.hid hb1
          clear hb1
          go_wp2_with (first | (simp only [q0.out]) | (go_at_call 25; refine (SC.out _).mono ?_; rintro en w' ⟨rfl, rfl⟩))
          refine (F1.out _).mono ?_
          rintro en w2 ⟨rfl, hb2⟩
          have B2 := Lib.hid (under B1.out hb2)
          clear hb2
          go_wp2_with fail
          refine (F2.out _ _ (by omega)).mono ?_
          rintro en w3 ⟨rfl, hb3⟩
          have B3 := Lib.hid (under B2.out hb3)
          clear hb3
          go_wp2_with fail
          go_ret
          exact ⟨rfl, B3.out⟩
        · have k3 : ¬ (1152921504606846976 ≤ v) := by omega
          have k4 : decide (1152921504606846976 ≤ v) = false := decide_eq_false k3
          have k5 : decide (v ≤ -1152921504606846976) = true := decide_eq_true k2
          go_enter Try.func10, Try.ntmps10
          go_wp2_with fail
          refine (W1.out _).mono ?_
          rintro en w1 ⟨rfl, hb1⟩
          have B1 := Lib.hid hb1
          clear hb1
          go_wp2_with (first | (simp only [q0.out]) | (go_at_call 25; refine (SC.out _).mono ?_; rintro en w' ⟨rfl, rfl⟩))
          refine (F1.out _).mono ?_
          rintro en w2 ⟨rfl, hb2⟩
          have B2 := Lib.hid (under B1.out hb2)
          clear hb2
          go_wp2_with fail
          refine (F2.out _ _ (by omega)).mono ?_
          rintro en w3 ⟨rfl, hb3⟩
          have B3 := Lib.hid (under B2.out hb3)
          clear hb3
          go_wp2_with fail
          go_ret
          exact ⟨rfl, B3.out⟩
    · have k1 := g1 ce
      subst k1
      have k2 : (f != 0) = true := by simpa using ce
      clear g1 g2 g3 ce
      go_enter Try.func10, Try.ntmps10
      go_wp2_with fail
      refine (W1.out _).mono ?_
      rintro en w1 ⟨rfl, hb1⟩
      have B1 := Lib.hid hb1
      clear hb1
      go_wp2_with (first | (simp only [q0.out]) | (go_at_call 25; refine (SC.out _).mono ?_; rintro en w' ⟨rfl, rfl⟩))
      refine (F1.out _).mono ?_
      rintro en w2 ⟨rfl, hb2⟩
      have B2 := Lib.hid (under B1.out hb2)
      clear hb2
      go_wp2_with fail
      refine (F2.out _ _ (by omega)).mono ?_
      rintro en w3 ⟨rfl, hb3⟩
      have B3 := Lib.hid (under B2.out hb3)
      clear hb3
      go_wp2_with fail
      go_ret
      exact ⟨rfl, B3.out⟩
  · have hs' := HS.out
    rw [if_neg ct] at hs'
    subst hs'
    have ct2 : (s == 40) = false := by simpa using ct
    clear HS ct
    by_cases ce : e = 0
    · subst ce
      by_cases cf : f = 0
      · subst cf
        obtain ⟨k1, k2⟩ := g3 rfl rfl
        clear g1 g2 g3
        go_enter Try.func10, Try.ntmps10
        go_wp2_with fail
        refine (W1.out _).mono ?_
        rintro en w1 ⟨rfl, hb1⟩
        have B1 := Lib.hid hb1
        clear hb1
        go_wp2_with (first | (simp only [q0.out]) | (go_at_call 25; refine (SC.out _).mono ?_; rintro en w' ⟨rfl, rfl⟩))
        refine (F1.out _).mono ?_
        rintro en w2 ⟨rfl, hb2⟩
        have B2 := Lib.hid (under B1.out hb2)
        clear hb2
        go_wp2_with fail
        refine (F2.out _ _ (by omega)).mono ?_
        rintro en w3 ⟨rfl, hb3⟩
        have B3 := Lib.hid (under B2.out hb3)
        clear hb3
        go_wp2_with fail
        go_ret
        exact ⟨rfl, B3.out⟩
      · obtain ⟨k1, k2⟩ := g2 rfl cf
        subst k1
        clear g1 g2 g3 cf
        rcases k2 with k2 | k2
        · have k4 : decide (1152921504606846976 ≤ v) = true := decide_eq_true k2
          go_enter Try.func10, Try.ntmps10
          go_wp2_with fail
          refine (W1.out _).mono ?_
          rintro en w1 ⟨rfl, hb1⟩
          have B1 := Lib.hid hb1
          clear hb1
          go_wp2_with (first | (simp only [q0.out]) | (go_at_call 25; refine (SC.out _).mono ?_; rintro en w' ⟨rfl, rfl⟩))
          refine (F1.out _).mono ?_
          rintro en w2 ⟨rfl, hb2⟩
          have B2 := Lib.hid (under B1.out hb2)
          clear hb2
          go_wp2_with fail
          refine (F2.out _ _ (by omega)).mono ?_
          rintro en w3 ⟨rfl, hb3⟩
          have B3 := Lib.hid (under B2.out hb3)
          clear hb3
          go_wp2_with fail
          go_ret
          exact ⟨rfl, B3.out⟩
        · have k3 : ¬ (1152921504606846976 ≤ v) := by omega
          have k4 : decide (1152921504606846976 ≤ v) = false := decide_eq_false k3
          have k5 : decide (v ≤ -1152921504606846976) = true := decide_eq_true k2
          go_enter Try.func10, Try.ntmps10
          go_wp2_with fail
          refine (W1.out _).mono ?_
          rintro en w1 ⟨rfl, hb1⟩
          have B1 := Lib.hid hb1
          clear hb1
          go_wp2_with (first | (simp only [q0.out]) | (go_at_call 25; refine (SC.out _).mono ?_; rintro en w' ⟨rfl, rfl⟩))
          refine (F1.out _).mono ?_
          rintro en w2 ⟨rfl, hb2⟩
          have B2 := Lib.hid (under B1.out hb2)
          clear hb2
          go_wp2_with fail
          refine (F2.out _ _ (by omega)).mono ?_
          rintro en w3 ⟨rfl, hb3⟩
          have B3 := Lib.hid (under B2.out hb3)
          clear hb3
          go_wp2_with fail
          go_ret
          exact ⟨rfl, B3.out⟩
    · have k1 := g1 ce
      subst k1
      have k2 : (f != 0) = true := by simpa using ce
      clear g1 g2 g3 ce
      go_enter Try.func10, Try.ntmps10
      go_wp2_with fail
      refine (W1.out _).mono ?_
      rintro en w1 ⟨rfl, hb1⟩
      have B1 := Lib.hid hb1
      clear hb1
      go_wp2_with (first | (simp only [q0.out]) | (go_at_call 25; refine (SC.out _).mono ?_; rintro en w' ⟨rfl, rfl⟩))
      refine (F1.out _).mono ?_
      rintro en w2 ⟨rfl, hb2⟩
      have B2 := Lib.hid (under B1.out hb2)
      clear hb2
      go_wp2_with fail
      refine (F2.out _ _ (by omega)).mono ?_
      rintro en w3 ⟨rfl, hb3⟩
      have B3 := Lib.hid (under B2.out hb3)
      clear hb3
      go_wp2_with fail
      go_ret
      exact ⟨rfl, B3.out⟩
end Go.Proofs.Ytpldkccjhplipaa
