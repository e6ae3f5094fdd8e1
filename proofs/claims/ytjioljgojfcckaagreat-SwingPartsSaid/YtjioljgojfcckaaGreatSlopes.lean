/-
  The document's nearest slope; the walk of the law LineSlopes. Conditions: the numbers are of 64 bits.
-/
import Derived.Test.YtjioljgojfcckaaGreatLC
import Derived.Test.YtjioljgojfcckaaGreatLnW
import Derived.Test.YtjioljgojfcckaaGreatLdA
namespace Go.Proofs.YtjioljgojfcckaaGreat
open Go.RowKit

set_option maxRecDepth 100000 in
set_option maxHeartbeats 2000000 in
theorem refNearest_any (n d m e x y : Int) (h1 : slopeB n d = true) (h2 : slopeB m e = true) (H : 0 < n ∧ x = lowN n d ∧ y = lowD n d ∨ n ≤ 0 ∧ m < 0 ∧ x = lowN m e ∧ y = lowD m e ∨ n ≤ 0 ∧ 0 ≤ m ∧ x = 0 ∧ y = 1) (w : World) :
    Calls Tryz.prog 31 #[slV n d, slV m e] w (Ret w (slV x y)) := by
  have L1 := Lib.hid (fun W => refLowest_any n d h1 W)
  have L2 := Lib.hid (fun W => refLowest_any m e h2 W)
  clear h1 h2
  rcases H with ⟨g1, e1, e2⟩ | ⟨g1, g2, e1, e2⟩ | ⟨g1, g2, rfl, rfl⟩
  · rw [← e1, ← e2] at L1
    have t1 : decide (0 < n) = true := by simpa using g1
    clear L2 e1 e2 g1
    go_enter Tryz.func31, Tryz.ntmps31
    go_wp2_with fail
    refine (L1.out _).mono ?_
    rintro e w1 ⟨rfl, hb⟩
    have hHeld : Keeps w [(w.heap.size + 2, 0, .int .i64 0), (w.heap.size + 2, 1, .int .i64 0)] _ := Keeps.next (by refine ⟨by go_grown, ?_⟩; simp [Cells, go_sem]) hb
    clear hb
    obtain ⟨⟨kz0, kc0, kf0⟩, ⟨kz1, kc1, kf1⟩, _⟩ := hHeld.2
    go_wp2_with fail
    obtain ⟨d0, d1⟩ := set2 (W := w1) (B := w.heap.size + 2) (u0 := .int .i64 x) (u1 := .int .i64 y) kc0 kc1
    refine bodyPost_ret (v := slV x y) (by simp [results, Tryz.results31, go_sem, d0, d1]) rfl ?_
    exact ⟨rfl, by first | (with_reducible exact hHeld.1) | (have hB := hHeld.1; have hz := hB.size; go_grown)⟩
  · rw [← e1, ← e2] at L2
    have t1 : decide (0 < n) = false := by simpa using g1
    have t2 : decide (m < 0) = true := by simpa using g2
    clear L1 e1 e2 g1 g2
    go_enter Tryz.func31, Tryz.ntmps31
    go_wp2_with fail
    refine (L2.out _).mono ?_
    rintro e w1 ⟨rfl, hb⟩
    have hHeld : Keeps w [(w.heap.size + 2, 0, .int .i64 0), (w.heap.size + 2, 1, .int .i64 0)] _ := Keeps.next (by refine ⟨by go_grown, ?_⟩; simp [Cells, go_sem]) hb
    clear hb
    obtain ⟨⟨kz0, kc0, kf0⟩, ⟨kz1, kc1, kf1⟩, _⟩ := hHeld.2
    go_wp2_with fail
    obtain ⟨d0, d1⟩ := set2 (W := w1) (B := w.heap.size + 2) (u0 := .int .i64 x) (u1 := .int .i64 y) kc0 kc1
    refine bodyPost_ret (v := slV x y) (by simp [results, Tryz.results31, go_sem, d0, d1]) rfl ?_
    exact ⟨rfl, by first | (with_reducible exact hHeld.1) | (have hB := hHeld.1; have hz := hB.size; go_grown)⟩
  · have t1 : decide (0 < n) = false := by simpa using g1
    have t2 : decide (m < 0) = false := by simpa using g2
    clear L1 L2 g1 g2
    go_enter Tryz.func31, Tryz.ntmps31
    go_wp2
    go_returns
    exact ⟨rfl, by go_grown⟩
end Go.Proofs.YtjioljgojfcckaaGreat
