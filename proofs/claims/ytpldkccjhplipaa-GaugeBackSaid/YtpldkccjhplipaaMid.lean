/-
  Layer 3: the laws GaugeMiddle and GaugeBack, their walks. Conditions: those written at each fact.
-/
import Derived.Test.YtpldkccjhplipaaFiner
namespace Go.Proofs.Ytpldkccjhplipaa
open Go.RowKit Go.Shelf

/-- What lies in the middle. -/
theorem middle_facts (u s : Int) (hu1 : -2251799813685248 < u) (hu2 : u < 2251799813685248) (h1 : -40 ≤ s) (h2 : s ≤ 39) :
    floatF (2 * u + 1) (s + 1) < 18446744073709551616 ∧ exactF (2 * u + 1) (s + 1) = true ∧ errF (2 * u + 1) (s + 1) = 0 ∧ codeF (floatF (2 * u + 1) (s + 1)) s = 0 ∧
      (valF (floatF (2 * u + 1) (s + 1)) s = u ∨ valF (floatF (2 * u + 1) (s + 1)) s = u + 1) ∧ valF (floatF (2 * u + 1) (s + 1)) s % 2 = 0 := by
  have S1 : Scale s := ⟨h1, by omega⟩
  have S2 : Scale (s + 1) := ⟨by omega, by omega⟩
  have hz : (2 * u + 1).natAbs ≤ 2305843009213693952 := by omega
  have ok : okF (2 * u + 1) (s + 1) := ⟨S2, hz⟩
  have e1 : floatF (2 * u + 1) (s + 1) = floatW (2 * u + 1) (s + 1) := by unfold floatF; rw [if_pos ok]
  have hk := keep_small (x := (2 * u + 1).natAbs) (by omega)
  have e2 : exactF (2 * u + 1) (s + 1) = true := by unfold exactF; rw [if_pos ok, hk]; simp
  have e3 : errF (2 * u + 1) (s + 1) = 0 := by unfold errF; rw [if_pos ok]
  obtain ⟨k1, k2⟩ := float_kind hz S2
  have hb := float_below hz S2
  have hu := float_unit hz S2
  rw [hk] at hu
  rw [e1]
  refine ⟨float_lt hz S2, e2, e3, ?_⟩
  generalize floatW (2 * u + 1) (s + 1) = b at *
  obtain ⟨k, hk⟩ : ∃ k : Nat, (2 * u + 1).natAbs = 2 * k + 1 := ⟨((2 * u + 1).natAbs - 1) / 2, by omega⟩
  have hm : magF b s = cutN ((2 * k + 1) * 2 ^ (1074 - (s + 1)).toNat) ((1074 - (s + 1)).toNat + 1) := by
    unfold magF
    rw [hu, hk]
    congr 1
    omega
  obtain ⟨c1, c2⟩ := cutN_half k (1074 - (s + 1)).toNat
  rw [← hm] at c1 c2
  have hc : codeF b s = 0 := by unfold codeF; rw [if_pos S1, if_neg k1, if_neg k2, if_neg (by omega)]
  have hv : valF b s = if below b then -(magF b s : Int) else magF b s := by unfold valF; rw [if_pos hc]
  rw [hv, hb]
  simp only [decide_eq_true_eq]
  refine ⟨hc, ?_, ?_⟩ <;> split <;> omega
theorem tmod_small (v : Int) : -2251799813685248 < v.tmod 2251799813685248 ∧ v.tmod 2251799813685248 < 2251799813685248 := by
  rcases Int.le_total 0 v with h | h
  · rw [Int.tmod_eq_emod_of_nonneg h]; omega
  · have : v.tmod 2251799813685248 = -((-v).tmod 2251799813685248) := by rw [Int.neg_tmod]; omega
    rw [this, Int.tmod_eq_emod_of_nonneg (by omega)]; omega
theorem tmod_even {g : Int} (h : g % 2 = 0) : g.tmod 2 = 0 := by
  rw [Int.tmod_eq_emod]; split <;> omega
set_option maxRecDepth 100000 in
set_option maxHeartbeats 4000000 in
theorem middle_any (v n : Int) (h1 : -128 ≤ n) (h2 : n ≤ 127) (w : World) : Calls Try.prog 9 #[.int .i64 v, .int .i8 n] w (Ret w (.bool true)) := by
  have hs := lessS_range n
  obtain ⟨u1, u2⟩ := tmod_small v
  obtain ⟨hb, m1, m2, m3, g1, g2⟩ := middle_facts (v.tmod 2251799813685248) (lessS n) u1 u2 hs.1 hs.2
  replace g2 := tmod_even g2
  have F1 := Lib.hid (fun W (a p : Int) (ha : a = 2 * v.tmod 2251799813685248 + 1) (hp : p = lessS n + 1) => (show Calls Try.prog 19 #[.int .i64 a, .int .i64 p] W (Ret W (.tuple #[fl (floatF (2 * v.tmod 2251799813685248 + 1) (lessS n + 1)), .bool true, .int .i64 0])) from by
    have := float_any (2 * v.tmod 2251799813685248 + 1) (lessS n + 1) W
    rw [m1, m2] at this
    rw [ha, hp]; exact this))
  have F2 := Lib.hid (fun W => fixed_any _ hb (lessS n) W)
  rw [m3] at F2
  have HS : Hid (lessS n = if n.tmod 41 = 40 then 39 else n.tmod 41) := Lib.hid rfl
  obtain ⟨t1, t2⟩ := tmod_range n
  have SC := Lib.hid (fun W => scaled_any n h1 h2 _ rfl W)
  have hu : ∃ u, v.tmod 2251799813685248 = u := ⟨_, rfl⟩
  obtain ⟨u, hu⟩ := hu
  rw [hu] at F1 F2 u1 u2 g1 g2
  clear hb m1 m2 m3
  generalize n.tmod 41 = t at *
  generalize lessS n = s at *
  generalize floatF (2 * u + 1) (s + 1) = b at *
  generalize valF b s = g at *
  have W1 := Lib.hid (fun W => wakes_any W)
  clear h1 h2
  obtain ⟨s1, s2⟩ := hs
  by_cases ct : t = 40
  · subst ct
    have hs' := HS.out
    rw [if_pos rfl] at hs'
    subst hs'
    clear HS
    rcases g1 with rfl | rfl
    · skip
      go_enter Try.func9, Try.ntmps9
      go_wp2_with fail
      refine (W1.out _).mono ?_
      rintro en w1 ⟨rfl, hb1⟩
      have B1 := Lib.hid hb1
      clear hb1
      go_wp2_with (go_at_call 25; refine (SC.out _).mono ?_; rintro en w' ⟨rfl, rfl⟩)
      refine (F1.out _ _ _ (by omega) (by omega)).mono ?_
      rintro en w2 ⟨rfl, hb2⟩
      have B2 := Lib.hid (under B1.out hb2)
      clear hb2
      go_wp2_with fail
      refine (F2.out _).mono ?_
      rintro en w3 ⟨rfl, hb3⟩
      have B3 := Lib.hid (under B2.out hb3)
      clear hb3
      go_wp2_with fail
      go_ret
      exact ⟨rfl, B3.out⟩
    · have k2 : (u + 1 == u) = false := beq_eq_false_iff_ne.2 (by omega)
      go_enter Try.func9, Try.ntmps9
      go_wp2_with fail
      refine (W1.out _).mono ?_
      rintro en w1 ⟨rfl, hb1⟩
      have B1 := Lib.hid hb1
      clear hb1
      go_wp2_with (go_at_call 25; refine (SC.out _).mono ?_; rintro en w' ⟨rfl, rfl⟩)
      refine (F1.out _ _ _ (by omega) (by omega)).mono ?_
      rintro en w2 ⟨rfl, hb2⟩
      have B2 := Lib.hid (under B1.out hb2)
      clear hb2
      go_wp2_with fail
      refine (F2.out _).mono ?_
      rintro en w3 ⟨rfl, hb3⟩
      have B3 := Lib.hid (under B2.out hb3)
      clear hb3
      go_wp2_with fail
      go_ret
      exact ⟨rfl, B3.out⟩
  · have hs' := HS.out
    rw [if_neg ct] at hs'
    subst hs'
    have ct2 : (s == 40) = false := by simpa using ct
    clear HS ct
    rcases g1 with rfl | rfl
    · skip
      go_enter Try.func9, Try.ntmps9
      go_wp2_with fail
      refine (W1.out _).mono ?_
      rintro en w1 ⟨rfl, hb1⟩
      have B1 := Lib.hid hb1
      clear hb1
      go_wp2_with (go_at_call 25; refine (SC.out _).mono ?_; rintro en w' ⟨rfl, rfl⟩)
      refine (F1.out _ _ _ (by omega) (by omega)).mono ?_
      rintro en w2 ⟨rfl, hb2⟩
      have B2 := Lib.hid (under B1.out hb2)
      clear hb2
      go_wp2_with fail
      refine (F2.out _).mono ?_
      rintro en w3 ⟨rfl, hb3⟩
      have B3 := Lib.hid (under B2.out hb3)
      clear hb3
      go_wp2_with fail
      go_ret
      exact ⟨rfl, B3.out⟩
    · have k2 : (u + 1 == u) = false := beq_eq_false_iff_ne.2 (by omega)
      go_enter Try.func9, Try.ntmps9
      go_wp2_with fail
      refine (W1.out _).mono ?_
      rintro en w1 ⟨rfl, hb1⟩
      have B1 := Lib.hid hb1
      clear hb1
      go_wp2_with (go_at_call 25; refine (SC.out _).mono ?_; rintro en w' ⟨rfl, rfl⟩)
      refine (F1.out _ _ _ (by omega) (by omega)).mono ?_
      rintro en w2 ⟨rfl, hb2⟩
      have B2 := Lib.hid (under B1.out hb2)
      clear hb2
      go_wp2_with fail
      refine (F2.out _).mono ?_
      rintro en w3 ⟨rfl, hb3⟩
      have B3 := Lib.hid (under B2.out hb3)
      clear hb3
      go_wp2_with fail
      go_ret
      exact ⟨rfl, B3.out⟩
/-- What comes back. -/
theorem back_facts (v s : Int) (hs : Scale s) (h : v.natAbs ≤ 2305843009213693952) :
    floatF v s < 18446744073709551616 ∧ errF v s = 0 ∧ codeF (floatF v s) s = 0 ∧ (valF (floatF v s) s == v) = exactF v s ∧ (exactF v s = false → v < -9007199254740992 ∨ 9007199254740992 < v) := by
  have ok : okF v s := ⟨hs, h⟩
  have e1 : floatF v s = floatW v s := by unfold floatF; rw [if_pos ok]
  have e2 : exactF v s = decide (keep v.natAbs = v.natAbs) := by unfold exactF; rw [if_pos ok]
  have e3 : errF v s = 0 := by unfold errF; rw [if_pos ok]
  obtain ⟨c1, c2⟩ := float_back h hs
  rw [e1]
  refine ⟨float_lt h hs, e3, c1, ?_, fun hx => ?_⟩
  · rw [c2, e2, Bool.eq_iff_iff, beq_iff_eq, decide_eq_true_eq]
    split <;> omega
  · rw [e2, decide_eq_false_iff_not] at hx
    have : ¬ v.natAbs ≤ 9007199254740992 := fun hh => hx (keep_small hh)
    omega
set_option maxRecDepth 100000 in
set_option maxHeartbeats 4000000 in
theorem back_any (v : Int) (hv1 : -9223372036854775808 ≤ v) (hv2 : v ≤ 9223372036854775807) (n : Int) (h1 : -128 ≤ n) (h2 : n ≤ 127) (w : World) : Calls Try.prog 7 #[.int .i64 v, .int .i8 n] w (Ret w (.bool true)) := by
  obtain ⟨t1, t2⟩ := tmod_range n
  have SC := Lib.hid (fun W => scaled_any n h1 h2 _ rfl W)
  generalize n.tmod 41 = s at *
  have F1 := Lib.hid (fun W => float_any v s W)
  have W1 := Lib.hid (fun W => wakes_any W)
  clear h1 h2
  by_cases hv : v.natAbs ≤ 2305843009213693952
  · obtain ⟨hb, m1, m2, m3, m4⟩ := back_facts v s ⟨t1, t2⟩ hv
    have F2 := Lib.hid (fun W => fixed_any _ hb s W)
    rw [m2] at F2
    rw [m1] at F1
    have k1 : ¬ 2305843009213693952 < v := by omega
    have k2 : ¬ v < -2305843009213693952 := by omega
    clear hb m1 m2 hv hv1 hv2
    generalize floatF v s = b at *
    generalize valF b s = g at *
    generalize exactF v s = x at *
    cases x
    · have m5 := m4 rfl
      clear m4
      rcases m5 with k3 | k3
      · have k4 : decide (-9007199254740992 ≤ v) = false := decide_eq_false (by omega)
        go_enter Try.func7, Try.ntmps7
        go_wp2_with fail
        refine (W1.out _).mono ?_
        rintro en w1 ⟨rfl, hb1⟩
        have B1 := Lib.hid hb1
        clear hb1
        go_wp2_with (go_at_call 25; refine (SC.out _).mono ?_; rintro en w' ⟨rfl, rfl⟩)
        refine (F1.out _).mono ?_
        rintro en w2 ⟨rfl, hb2⟩
        have B2 := Lib.hid (under B1.out hb2)
        clear hb2
        go_wp2_with fail
        refine (F2.out _).mono ?_
        rintro en w3 ⟨rfl, hb3⟩
        have B3 := Lib.hid (under B2.out hb3)
        clear hb3
        go_wp2_with fail
        go_ret
        exact ⟨rfl, B3.out⟩
      · have k4 : decide (-9007199254740992 ≤ v) = true := decide_eq_true (by omega)
        have k5 : decide (v ≤ 9007199254740992) = false := decide_eq_false (by omega)
        go_enter Try.func7, Try.ntmps7
        go_wp2_with fail
        refine (W1.out _).mono ?_
        rintro en w1 ⟨rfl, hb1⟩
        have B1 := Lib.hid hb1
        clear hb1
        go_wp2_with (go_at_call 25; refine (SC.out _).mono ?_; rintro en w' ⟨rfl, rfl⟩)
        refine (F1.out _).mono ?_
        rintro en w2 ⟨rfl, hb2⟩
        have B2 := Lib.hid (under B1.out hb2)
        clear hb2
        go_wp2_with fail
        refine (F2.out _).mono ?_
        rintro en w3 ⟨rfl, hb3⟩
        have B3 := Lib.hid (under B2.out hb3)
        clear hb3
        go_wp2_with fail
        go_ret
        exact ⟨rfl, B3.out⟩
    · clear m4
      go_enter Try.func7, Try.ntmps7
      go_wp2_with fail
      refine (W1.out _).mono ?_
      rintro en w1 ⟨rfl, hb1⟩
      have B1 := Lib.hid hb1
      clear hb1
      go_wp2_with (go_at_call 25; refine (SC.out _).mono ?_; rintro en w' ⟨rfl, rfl⟩)
      refine (F1.out _).mono ?_
      rintro en w2 ⟨rfl, hb2⟩
      have B2 := Lib.hid (under B1.out hb2)
      clear hb2
      go_wp2_with fail
      refine (F2.out _).mono ?_
      rintro en w3 ⟨rfl, hb3⟩
      have B3 := Lib.hid (under B2.out hb3)
      clear hb3
      go_wp2_with fail
      go_ret
      exact ⟨rfl, B3.out⟩
  · have ok : ¬ okF v s := fun h => hv h.2
    have e3 : errF v s = 2 := by unfold errF; rw [if_neg ok]
    rw [e3] at F1
    by_cases k1 : 2305843009213693952 < v
    · clear hv ok e3
      go_enter Try.func7, Try.ntmps7
      go_wp2_with fail
      refine (W1.out _).mono ?_
      rintro en w1 ⟨rfl, hb1⟩
      have B1 := Lib.hid hb1
      clear hb1
      go_wp2_with (go_at_call 25; refine (SC.out _).mono ?_; rintro en w' ⟨rfl, rfl⟩)
      refine (F1.out _).mono ?_
      rintro en w2 ⟨rfl, hb2⟩
      have B2 := Lib.hid (under B1.out hb2)
      clear hb2
      go_wp2_with fail
      go_ret
      exact ⟨rfl, B2.out⟩
    · have k2 : v < -2305843009213693952 := by omega
      clear hv ok e3
      go_enter Try.func7, Try.ntmps7
      go_wp2_with fail
      refine (W1.out _).mono ?_
      rintro en w1 ⟨rfl, hb1⟩
      have B1 := Lib.hid hb1
      clear hb1
      go_wp2_with (go_at_call 25; refine (SC.out _).mono ?_; rintro en w' ⟨rfl, rfl⟩)
      refine (F1.out _).mono ?_
      rintro en w2 ⟨rfl, hb2⟩
      have B2 := Lib.hid (under B1.out hb2)
      clear hb2
      go_wp2_with fail
      go_ret
      exact ⟨rfl, B2.out⟩
end Go.Proofs.Ytpldkccjhplipaa
