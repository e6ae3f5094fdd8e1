/-
  Layer 3: the statements' first question; a scale of any number. Conditions: those written at each fact.
-/
import Derived.Test.YtinppckjolkhpaaFloB
namespace Go.Proofs.Ytinppckjolkhpaa
open Go.RowKit Go.Shelf

theorem wk1 : valF 4612811918334230528 0 = 2 ∧ codeF 4612811918334230528 0 = 0 := by decide +kernel
theorem wk2 : valF 4652007308841189376 (-3) = 125 ∧ codeF 4652007308841189376 (-3) = 0 := by decide +kernel
theorem wk3 : codeF 4607182418800017408 41 = 2 := by decide +kernel
theorem wk4 : floatF (-3) 1 = 13832806255468478464 ∧ exactF (-3) 1 = true ∧ errF (-3) 1 = 0 := by decide +kernel
theorem wk5 : FloatKind.f64.format.order 13832806255468478464 13832806255468478464 = some .eq := by decide +kernel
theorem wk6 : kindF 0 = 3 := by decide +kernel

set_option maxRecDepth 100000 in
set_option maxHeartbeats 2000000 in
theorem wakes_any (w : World) : Calls Try.prog 4 #[] w (Ret w (.bool true)) := by
  have A1 := Lib.hid (fun W => fixed_any 4612811918334230528 (by decide) 0 W)
  have A2 := Lib.hid (fun W => fixed_any 4652007308841189376 (by decide) (-3) W)
  have A3 := Lib.hid (fun W => fixed_any 4607182418800017408 (by decide) 41 W)
  have A4 := Lib.hid (fun W => float_any (-3) 1 W)
  have A5 := Lib.hid (fun W => kind_any 0 (by decide) W)
  rw [wk1.1, wk1.2] at A1
  rw [wk2.1, wk2.2] at A2
  rw [wk3] at A3
  rw [wk4.1, wk4.2.1, wk4.2.2] at A4
  rw [wk6] at A5
  have q := wk5
  go_enter Try.func4, Try.ntmps4
  go_wp2_with fail
  refine (A1.out _).mono ?_
  rintro en w1 ⟨rfl, hb1⟩
  go_wp2_with fail
  refine (A2.out _).mono ?_
  rintro en w2 ⟨rfl, hb2⟩
  go_wp2_with fail
  refine (A3.out _).mono ?_
  rintro en w3 ⟨rfl, hb3⟩
  go_wp2_with fail
  refine (A4.out _).mono ?_
  rintro en w4 ⟨rfl, hb4⟩
  have HB := Lib.hid (under (under (under hb1 hb2) hb3) hb4)
  clear hb1 hb2 hb3 hb4
  go_wp2_with fail
  refine (A5.out _).mono ?_
  rintro en w5 ⟨rfl, hb5⟩
  have HB5 := Lib.hid (under HB.out hb5)
  clear hb5
  go_wp2_with fail
  go_ret
  exact ⟨rfl, HB5.out⟩
theorem tmod_range (n : Int) : -40 ≤ n.tmod 41 ∧ n.tmod 41 ≤ 40 := by
  rcases Int.le_total 0 n with h | h
  · rw [Int.tmod_eq_emod_of_nonneg h]; omega
  · have : n.tmod 41 = -((-n).tmod 41) := by rw [Int.neg_tmod]; omega
    rw [this, Int.tmod_eq_emod_of_nonneg (by omega)]; omega
end Go.Proofs.Ytinppckjolkhpaa
