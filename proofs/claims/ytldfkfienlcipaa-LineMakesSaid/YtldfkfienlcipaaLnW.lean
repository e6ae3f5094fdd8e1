/-
  Layer 5: wakes, and what At tells, in plain words. Conditions: none.
-/
import Derived.Test.YtldfkfienlcipaaLnF
namespace Go.Proofs.Ytldfkfienlcipaa
open Go.RowKit

theorem at_told (a r n d t : Int) : lineB a r n d = false ∧ tlQ a r n d t = 0 ∧ tlE a r n d t = 150 ∨ lineB a r n d = true ∧ timeB t = false ∧ tlQ a r n d t = 0 ∧ tlE a r n d t = 2 ∨
    lineB a r n d = true ∧ timeB t = true ∧ backB (exV a r n d t / d) = false ∧ tlQ a r n d t = 0 ∧ tlE a r n d t = 5 ∨
    lineB a r n d = true ∧ timeB t = true ∧ backB (exV a r n d t / d) = true ∧ tlQ a r n d t = exV a r n d t / d ∧ tlE a r n d t = 0 := by
  unfold tlQ tlE
  cases h : lineB a r n d
  · exact Or.inl ⟨rfl, by simp, by simp⟩
  · unfold atQ atE
    cases g : timeB t
    · exact Or.inr (Or.inl ⟨rfl, rfl, by simp, by simp⟩)
    · unfold ovQ ovE
      cases b : backB (exV a r n d t / d)
      · exact Or.inr (Or.inr (Or.inl ⟨rfl, rfl, rfl, by simp, by simp⟩))
      · exact Or.inr (Or.inr (Or.inr ⟨rfl, rfl, rfl, by simp, by simp⟩))
set_option maxRecDepth 100000 in
set_option maxHeartbeats 2000000 in
theorem wakes_any (w : World) : Calls Try.prog 11 #[] w (Ret w (.bool true)) := by
  have AT := fun W => at_any 10 1 (-3) 2 2 W
  rw [show tlQ 10 1 (-3) 2 2 = 7 by kernel_rfl, show tlE 10 1 (-3) 2 2 = 0 by kernel_rfl] at AT
  have LO := fun W => low_any 6 4 W
  rw [show loN 6 4 = 3 by kernel_rfl, show loD 6 4 = 2 by kernel_rfl, show loE 6 4 = 0 by kernel_rfl] at LO
  have CP := fun W => cmp_any 1 2 2 3 W
  rw [show cpI 1 2 2 3 = -1 by kernel_rfl, show slopesB 1 2 2 3 = true by kernel_rfl] at CP
  have WN := fun W => within_any 10 1 (-3) 2 1 9 9 (by unfold I64; omega) (by unfold I64; omega) W
  rw [show wnB 10 1 (-3) 2 1 9 9 = true by kernel_rfl] at WN
  have CK := fun W => lcheck_any 0 0 0 2 W
  rw [show lineB 0 0 0 2 = false by kernel_rfl, if_neg (by simp)] at CK
  replace AT := Lib.hid AT
  replace LO := Lib.hid LO
  replace CP := Lib.hid CP
  replace WN := Lib.hid WN
  replace CK := Lib.hid CK
  go_enter Try.func11, Try.ntmps11
  go_wp2_with fail
  refine (AT.out _).mono ?_
  rintro e w1 ⟨rfl, hb⟩
  have hHeld : Keeps w [(w.heap.size, 0, .int .i64 10), (w.heap.size, 1, .int .i64 1), (w.heap.size, 2, .int .i64 (-3)), (w.heap.size, 3, .int .i64 2)] _ := Keeps.next (by refine ⟨by go_grown, ?_⟩; simp [Cells, go_sem]) hb
  clear hb
  obtain ⟨⟨kz0, kc0, kf0⟩, ⟨kz1, kc1, kf1⟩, ⟨kz2, kc2, kf2⟩, ⟨kz3, kc3, kf3⟩, _⟩ := hHeld.2
  go_wp2_with fail
  refine (LO.out _).mono ?_
  rintro e w2 ⟨rfl, hb⟩
  replace hHeld := Keeps.next (hHeld) hb
  clear hb kz0 kc0 kf0 kz1 kc1 kf1 kz2 kc2 kf2 kz3 kc3 kf3
  obtain ⟨⟨kz0, kc0, kf0⟩, ⟨kz1, kc1, kf1⟩, ⟨kz2, kc2, kf2⟩, ⟨kz3, kc3, kf3⟩, _⟩ := hHeld.2
  go_wp2_with fail
  refine (CP.out _).mono ?_
  rintro e w3 ⟨rfl, hb⟩
  replace hHeld : Keeps w [(w.heap.size, 0, .int .i64 10), (w.heap.size, 1, .int .i64 1), (w.heap.size, 2, .int .i64 (-3)), (w.heap.size, 3, .int .i64 2), (w2.heap.size, 0, .int .i64 3), (w2.heap.size, 1, .int .i64 2)] _ := Keeps.next (((hHeld.alloc _).app (newK2 (hHeld.alloc _)))) hb
  clear hb kz0 kc0 kf0 kz1 kc1 kf1 kz2 kc2 kf2 kz3 kc3 kf3
  obtain ⟨⟨kz0, kc0, kf0⟩, ⟨kz1, kc1, kf1⟩, ⟨kz2, kc2, kf2⟩, ⟨kz3, kc3, kf3⟩, ⟨kz4, kc4, kf4⟩, ⟨kz5, kc5, kf5⟩, _⟩ := hHeld.2
  go_wp2_with fail
  refine (WN.out _).mono ?_
  rintro e w4 ⟨rfl, hb⟩
  replace hHeld := Keeps.next (hHeld) hb
  clear hb kz0 kc0 kf0 kz1 kc1 kf1 kz2 kc2 kf2 kz3 kc3 kf3 kz4 kc4 kf4 kz5 kc5 kf5
  obtain ⟨⟨kz0, kc0, kf0⟩, ⟨kz1, kc1, kf1⟩, ⟨kz2, kc2, kf2⟩, ⟨kz3, kc3, kf3⟩, ⟨kz4, kc4, kf4⟩, ⟨kz5, kc5, kf5⟩, _⟩ := hHeld.2
  go_wp2_with fail
  refine (CK.out _).mono ?_
  rintro e w5 ⟨rfl, hb⟩
  replace hHeld := Keeps.next (hHeld) hb
  clear hb kz0 kc0 kf0 kz1 kc1 kf1 kz2 kc2 kf2 kz3 kc3 kf3 kz4 kc4 kf4 kz5 kc5 kf5
  obtain ⟨⟨kz0, kc0, kf0⟩, ⟨kz1, kc1, kf1⟩, ⟨kz2, kc2, kf2⟩, ⟨kz3, kc3, kf3⟩, ⟨kz4, kc4, kf4⟩, ⟨kz5, kc5, kf5⟩, _⟩ := hHeld.2
  go_wp2_with fail
  go_ret
  exact ⟨rfl, hHeld.1⟩
end Go.Proofs.Ytldfkfienlcipaa
