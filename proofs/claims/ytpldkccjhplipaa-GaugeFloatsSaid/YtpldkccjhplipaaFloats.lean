/-
  The law GaugeFloats. Conditions: those written at each fact.
-/
import Derived.Test.YtpldkccjhplipaaGrG
import Derived.Test.YtpldkccjhplipaaWak
namespace Go.Proofs.Ytpldkccjhplipaa
open Go.RowKit Go.Shelf

set_option maxRecDepth 100000 in
set_option maxHeartbeats 4000000 in
theorem floats_off (v s : Int) (hs : ¬ Scale s) (w : World) : Calls Try.prog 5 #[.int .i64 v, .int .i64 s] w (Ret w (.bool true)) := by
  have W1 := Lib.hid (fun W => wakes_any W)
  have F1 := fun W => float_any v s W
  have S1 := fun W => step_any s W
  have R1 := fun W => refScale_any s W
  have n1 : ¬ okF v s := fun h => hs h.1
  have n2 : ¬ okF 1 s := fun h => hs h.1
  rw [show floatF v s = 0 by unfold floatF; rw [if_neg n1], show exactF v s = false by unfold exactF; rw [if_neg n1], show errF v s = 2 by unfold errF; rw [if_neg n1]] at F1
  rw [show floatF 1 s = 0 by unfold floatF; rw [if_neg n2], show errF 1 s = 2 by unfold errF; rw [if_neg n2]] at S1
  rw [decide_eq_false hs] at R1
  replace F1 := Lib.hid F1
  replace S1 := Lib.hid S1
  replace R1 := Lib.hid R1
  have q0 := Lib.hid (fun x W => bits_run x W)
  clear n1 n2 hs
  go_enter Try.func5, Try.ntmps5
  go_wp2_with fail
  refine (W1.out _).mono ?_
  rintro en w1 ⟨rfl, hb1⟩
  have B1 := Lib.hid hb1
  clear hb1
  go_wp2_with fail
  refine (F1.out _).mono ?_
  rintro en w2 ⟨rfl, hb2⟩
  have B2 := Lib.hid (under B1.out hb2)
  clear hb2
  go_wp2_with fail
  refine (S1.out _).mono ?_
  rintro en w3 ⟨rfl, hb3⟩
  have B3 := Lib.hid (under B2.out hb3)
  clear hb3
  go_wp2_with fail
  refine (R1.out _).mono ?_
  rintro en w4 ⟨rfl, hw4⟩; subst w4
  go_wp2_with (simp only [q0.out])
  go_ret
  exact ⟨rfl, B3.out⟩

set_option maxRecDepth 100000 in
set_option maxHeartbeats 4000000 in
theorem floats_far (v s : Int) (hs : Scale s) (hv : 2305843009213693952 < v ∨ v < -2305843009213693952) (w : World) : Calls Try.prog 5 #[.int .i64 v, .int .i64 s] w (Ret w (.bool true)) := by
  have W1 := Lib.hid (fun W => wakes_any W)
  have F1 := fun W => float_any v s W
  have S1 := fun W => step_any s W
  have R1 := fun W => refScale_any s W
  have G1 := fun W => refFloat_any 1 s (by decide) hs W
  have n1 : ¬ okF v s := fun h => by have := h.2; omega
  have n2 : okF 1 s := ⟨hs, by decide⟩
  rw [show floatF v s = 0 by unfold floatF; rw [if_neg n1], show exactF v s = false by unfold exactF; rw [if_neg n1], show errF v s = 2 by unfold errF; rw [if_neg n1]] at F1
  rw [show floatF 1 s = floatW 1 s by unfold floatF; rw [if_pos n2], show errF 1 s = 0 by unfold errF; rw [if_pos n2]] at S1
  rw [decide_eq_true hs] at R1
  generalize floatW 1 s = b at *
  generalize decide (keep (1 : Int).natAbs = (1 : Int).natAbs) = x at *
  replace F1 := Lib.hid F1
  replace S1 := Lib.hid S1
  replace R1 := Lib.hid R1
  replace G1 := Lib.hid G1
  have q0 := Lib.hid (fun x W => bits_run x W)
  clear n1 n2 hs
  by_cases k1 : 2305843009213693952 < v
  · clear hv
    go_enter Try.func5, Try.ntmps5
    go_wp2_with fail
    refine (W1.out _).mono ?_
    rintro en w1 ⟨rfl, hb1⟩
    have B1 := Lib.hid hb1
    clear hb1
    go_wp2_with fail
    refine (F1.out _).mono ?_
    rintro en w2 ⟨rfl, hb2⟩
    have B2 := Lib.hid (under B1.out hb2)
    clear hb2
    go_wp2_with fail
    refine (S1.out _).mono ?_
    rintro en w3 ⟨rfl, hb3⟩
    have B3 := Lib.hid (under B2.out hb3)
    clear hb3
    go_wp2_with fail
    refine (R1.out _).mono ?_
    rintro en w4 ⟨rfl, hw4⟩; subst w4
    go_wp2_with (simp only [q0.out])
    refine (G1.out _).mono ?_
    rintro en w5 ⟨rfl, hb5⟩
    have B5 := Lib.hid (under B3.out hb5)
    clear hb5
    go_wp2_with (simp only [q0.out])
    go_ret
    exact ⟨rfl, B5.out⟩
  · have k2 : v < -2305843009213693952 := by omega
    clear hv
    go_enter Try.func5, Try.ntmps5
    go_wp2_with fail
    refine (W1.out _).mono ?_
    rintro en w1 ⟨rfl, hb1⟩
    have B1 := Lib.hid hb1
    clear hb1
    go_wp2_with fail
    refine (F1.out _).mono ?_
    rintro en w2 ⟨rfl, hb2⟩
    have B2 := Lib.hid (under B1.out hb2)
    clear hb2
    go_wp2_with fail
    refine (S1.out _).mono ?_
    rintro en w3 ⟨rfl, hb3⟩
    have B3 := Lib.hid (under B2.out hb3)
    clear hb3
    go_wp2_with fail
    refine (R1.out _).mono ?_
    rintro en w4 ⟨rfl, hw4⟩; subst w4
    go_wp2_with (simp only [q0.out])
    refine (G1.out _).mono ?_
    rintro en w5 ⟨rfl, hb5⟩
    have B5 := Lib.hid (under B3.out hb5)
    clear hb5
    go_wp2_with (simp only [q0.out])
    go_ret
    exact ⟨rfl, B5.out⟩

set_option maxRecDepth 100000 in
set_option maxHeartbeats 4000000 in
theorem floats_some (v s : Int) (hs : Scale s) (h1 : -2305843009213693952 ≤ v) (h2 : v ≤ 2305843009213693952) (w : World) : Calls Try.prog 5 #[.int .i64 v, .int .i64 s] w (Ret w (.bool true)) := by
  have W1 := Lib.hid (fun W => wakes_any W)
  have F1 := fun W => float_any v s W
  have S1 := fun W => step_any s W
  have R1 := fun W => refScale_any s W
  have G1 := fun W => refFloat_any 1 s (by decide) hs W
  have G2 := fun W => refFloat_any v s (by omega) hs W
  have n1 : okF v s := ⟨hs, by omega⟩
  have n2 : okF 1 s := ⟨hs, by decide⟩
  rw [show floatF v s = floatW v s by unfold floatF; rw [if_pos n1], show exactF v s = decide (keep v.natAbs = v.natAbs) by unfold exactF; rw [if_pos n1], show errF v s = 0 by unfold errF; rw [if_pos n1]] at F1
  rw [show floatF 1 s = floatW 1 s by unfold floatF; rw [if_pos n2], show errF 1 s = 0 by unfold errF; rw [if_pos n2]] at S1
  rw [decide_eq_true hs] at R1
  generalize decide (keep (1 : Int).natAbs = (1 : Int).natAbs) = x at *
  generalize decide (keep v.natAbs = v.natAbs) = y at *
  generalize floatW 1 s = b at *
  generalize floatW v s = c at *
  replace F1 := Lib.hid F1
  replace S1 := Lib.hid S1
  replace R1 := Lib.hid R1
  replace G1 := Lib.hid G1
  replace G2 := Lib.hid G2
  have q0 := Lib.hid (fun x W => bits_run x W)
  clear n1 n2 hs
  go_enter Try.func5, Try.ntmps5
  go_wp2_with fail
  refine (W1.out _).mono ?_
  rintro en w1 ⟨rfl, hb1⟩
  have B1 := Lib.hid hb1
  clear hb1
  go_wp2_with fail
  refine (F1.out _).mono ?_
  rintro en w2 ⟨rfl, hb2⟩
  have B2 := Lib.hid (under B1.out hb2)
  clear hb2
  go_wp2_with fail
  refine (S1.out _).mono ?_
  rintro en w3 ⟨rfl, hb3⟩
  have B3 := Lib.hid (under B2.out hb3)
  clear hb3
  go_wp2_with fail
  refine (R1.out _).mono ?_
  rintro en w4 ⟨rfl, hw4⟩; subst w4
  go_wp2_with (simp only [q0.out])
  refine (G1.out _).mono ?_
  rintro en w5 ⟨rfl, hb5⟩
  have B5 := Lib.hid (under B3.out hb5)
  clear hb5
  go_wp2_with (simp only [q0.out])
  refine (G2.out _).mono ?_
  rintro en w6 ⟨rfl, hb6⟩
  have B6 := Lib.hid (under B5.out hb6)
  clear hb6
  go_wp2_with (simp only [q0.out])
  go_ret
  exact ⟨rfl, B6.out⟩

theorem floatsLaw_any (v s : Int) (w : World) : Calls Try.prog 5 #[.int .i64 v, .int .i64 s] w (Ret w (.bool true)) := by
  by_cases hs : Scale s
  · by_cases hv : 2305843009213693952 < v ∨ v < -2305843009213693952
    · exact floats_far v s hs hv w
    · exact floats_some v s hs (by omega) (by omega) w
  · exact floats_off v s hs w
end Go.Proofs.Ytpldkccjhplipaa
