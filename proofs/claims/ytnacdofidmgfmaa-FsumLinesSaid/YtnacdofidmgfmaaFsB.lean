/-
  Layer 6: which counts, terms and times may be; what 0 to n less 1 come to; what is added to a sum. Conditions: those written at each fact.
-/
import Derived.Test.YtnacdofidmgfmaaFsA
import Derived.Test.YtnacdofidmgfmaaLnE
import Derived.Test.YtnacdofidmgfmaaWideE
import Derived.Test.YtnacdofidmgfmaaWideK
namespace Go.Proofs.Ytnacdofidmgfmaa
open Go.RowKit

def countB (n : Int) : Bool := decide (0 ≤ n) && decide (n ≤ 256)
def termB (z : Int) : Bool := decide (-2596148429267413814265248164610048 ≤ z) && decide (z ≤ 2596148429267413814265248164610048)
theorem countB_iff (n : Int) : countB n = true ↔ 0 ≤ n ∧ n ≤ 256 := by unfold countB; simp
theorem termB_iff (z : Int) : termB z = true ↔ -2596148429267413814265248164610048 ≤ z ∧ z ≤ 2596148429267413814265248164610048 := by unfold termB; simp
theorem isCount_any (t : Int) (w : World) : Calls Try.prog 60 #[.int .i64 t] w (Ret w (.bool (countB t))) := by
  unfold countB
  cases g : decide (0 ≤ t)
  · go_enter Try.func60, Try.ntmps60
    go_wp2
    go_ret
    exact ⟨rfl, by go_grown⟩
  · go_enter Try.func60, Try.ntmps60
    go_wp2
    go_ret
    exact ⟨rfl, by go_grown⟩
theorem isTime6_any (t : Int) (w : World) : Calls Try.prog 80 #[.int .i64 t] w (Ret w (.bool (timeB t))) := by
  unfold timeB
  cases g : decide (0 ≤ t)
  · go_enter Try.func80, Try.ntmps80
    go_wp2
    go_ret
    exact ⟨rfl, by go_grown⟩
  · go_enter Try.func80, Try.ntmps80
    go_wp2
    go_ret
    exact ⟨rfl, by go_grown⟩
theorem cmpI_le0 (x y : Int) : (cmpI x y ≤ 0) ↔ x ≤ y := by
  unfold cmpI
  split
  · omega
  · split <;> omega
theorem term_ends : rhi (-2596148429267413814265248164610048) = -140737488355328 ∧ rlo (-2596148429267413814265248164610048) = 0 ∧ rhi 2596148429267413814265248164610048 = 140737488355328 ∧ rlo 2596148429267413814265248164610048 = 0 := by
  refine ⟨?_, ?_, ?_, ?_⟩ <;> decide +kernel
set_option maxRecDepth 100000 in
theorem isTerm_any (z : Int) (hz : Fits z) (w : World) : Calls Try.prog 61 #[wideV (rhi z) (rlo z)] w (Ret w (.bool (termB z))) := by
  obtain ⟨t0, t1, t2, t3⟩ := term_ends
  have C1 := fun W => compare_fits (-2596148429267413814265248164610048) z (by unfold Fits; omega) hz W
  have C2 := fun W => compare_fits z 2596148429267413814265248164610048 hz (by unfold Fits; omega) W
  rw [t0, t1] at C1
  rw [t2, t3] at C2
  have k1 := cmpI_le0 (-2596148429267413814265248164610048) z
  have k2 := cmpI_le0 z 2596148429267413814265248164610048
  generalize cmpI (-2596148429267413814265248164610048) z = c1 at *
  generalize cmpI z 2596148429267413814265248164610048 = c2 at *
  have e : termB z = (decide (c1 ≤ 0) && decide (c2 ≤ 0)) := by
    unfold termB
    rw [decide_eq_decide.2 k1, decide_eq_decide.2 k2]
  rw [e]
  replace C1 := Lib.hid C1
  replace C2 := Lib.hid C2
  clear k1 k2 e t0 t1 t2 t3 hz
  generalize rhi z = z0 at *
  generalize rlo z = z1 at *
  cases g : decide (c1 ≤ 0)
  · go_enter Try.func61, Try.ntmps61
    go_wp2_with fail
    refine (C1.out _).mono ?_
    rintro e w1 ⟨rfl, hb⟩
    have hHeld : Keeps w [(w.heap.size, 0, .int .i64 z0), (w.heap.size, 1, .int .u64 z1)] _ := Keeps.next (by refine ⟨by go_grown, ?_⟩; simp [Cells, go_sem]) hb
    clear hb
    obtain ⟨⟨kz0, kc0, kf0⟩, ⟨kz1, kc1, kf1⟩, _⟩ := hHeld.2
    go_wp2_with fail
    go_ret
    exact ⟨rfl, hHeld.1⟩
  · go_enter Try.func61, Try.ntmps61
    go_wp2_with fail
    refine (C1.out _).mono ?_
    rintro e w1 ⟨rfl, hb⟩
    have hHeld : Keeps w [(w.heap.size, 0, .int .i64 z0), (w.heap.size, 1, .int .u64 z1)] _ := Keeps.next (by refine ⟨by go_grown, ?_⟩; simp [Cells, go_sem]) hb
    clear hb
    obtain ⟨⟨kz0, kc0, kf0⟩, ⟨kz1, kc1, kf1⟩, _⟩ := hHeld.2
    go_wp2_with fail
    refine (C2.out _).mono ?_
    rintro e w2 ⟨rfl, hb⟩
    replace hHeld := Keeps.next (hHeld) hb
    clear hb kz0 kc0 kf0 kz1 kc1 kf1
    obtain ⟨⟨kz0, kc0, kf0⟩, ⟨kz1, kc1, kf1⟩, _⟩ := hHeld.2
    go_wp2_with fail
    go_ret
    exact ⟨rfl, hHeld.1⟩
theorem pairs_any (n : Nat) (h : n ≤ 256) (w : World) : Calls Try.prog 65 #[.int .i64 n] w (Ret w (.int .i64 (prN n))) := by
  have e := prN_two n
  have h0 := prN_nonneg n
  have h1 := prN_le h
  have e2 : (2 * prN n).tdiv 2 = prN n := Int.mul_tdiv_cancel_left _ (by omega)
  rw [e] at e2
  have e3 : IntKind.i64.wrap ((n : Int) * ((n : Int) - 1)) = (n : Int) * ((n : Int) - 1) := by rw [IntKind.wrap_i64]; omega
  have e4 : IntKind.i64.wrap ((n : Int) - 1) = (n : Int) - 1 := by rw [IntKind.wrap_i64]; omega
  have e5 : IntKind.i64.wrap (prN n) = prN n := by rw [IntKind.wrap_i64]; omega
  rw [← e2] at e5 ⊢
  clear e e2 h0 h1
  go_enter Try.func65, Try.ntmps65
  go_wp2_with fail
  go_ret
  refine ⟨?_, by go_grown⟩
  simp [*]
end Go.Proofs.Ytnacdofidmgfmaa
