/-
  Layer 5: Nearest. Conditions: the numbers are of 64 bits.
-/
import Derived.Test.YtldfkfienlcipaaLnF
namespace Go.Proofs.Ytldfkfienlcipaa
open Go.RowKit

/-- What the nearest slope is, or why there is none. -/
def NearI (n d m e x y c : Int) : Prop :=
  slopesB n d m e = false ∧ x = 0 ∧ y = 0 ∧ c = 151 ∨ slopesB n d m e = true ∧ (0 < cpI n d m e ∧ x = 0 ∧ y = 0 ∧ c = 2 ∨ cpI n d m e ≤ 0 ∧ (0 < n ∧ x = lowN n d ∧ y = lowD n d ∧ c = 0 ∨ n ≤ 0 ∧ m < 0 ∧ x = lowN m e ∧ y = lowD m e ∧ c = 0 ∨ n ≤ 0 ∧ 0 ≤ m ∧ x = 0 ∧ y = 1 ∧ c = 0))
set_option maxRecDepth 100000 in
set_option maxHeartbeats 4000000 in
theorem near1_any (n d m e x y c : Int) (hs : slopesB n d m e = true) (H : 0 < cpI n d m e ∧ x = 0 ∧ y = 0 ∧ c = 2 ∨ cpI n d m e ≤ 0 ∧ (0 < n ∧ x = lowN n d ∧ y = lowD n d ∧ c = 0 ∨ n ≤ 0 ∧ m < 0 ∧ x = lowN m e ∧ y = lowD m e ∧ c = 0 ∨ n ≤ 0 ∧ 0 ≤ m ∧ x = 0 ∧ y = 1 ∧ c = 0))
    (B1 B2 : Nat) (w : World) (hc : Cells [(B1, 0, .int .i64 n), (B1, 1, .int .i64 d), (B2, 0, .int .i64 m), (B2, 1, .int .i64 e)] w) :
    Calls Try.prog 53 #[.pointer (some ⟨B1, 0, none⟩), .pointer (some ⟨B2, 0, none⟩)] w (Ret w (.tuple #[slV x y, .int .i64 c])) := by
  have CP := fun W => cmp_any n d m e W
  rw [hs] at CP
  unfold slopesB at hs
  rw [Bool.and_eq_true] at hs
  have L1 := fun W => lowest_any n d hs.1 W
  have L2 := fun W => lowest_any m e hs.2 W
  generalize cpI n d m e = p at *
  generalize lowN n d = a0 at *
  generalize lowD n d = a1 at *
  generalize lowN m e = b0 at *
  generalize lowD m e = b1 at *
  replace CP := Lib.hid CP
  replace L1 := Lib.hid L1
  replace L2 := Lib.hid L2
  clear hs
  have hk : Keeps w [(B1, 0, .int .i64 n), (B1, 1, .int .i64 d), (B2, 0, .int .i64 m), (B2, 1, .int .i64 e)] w := ⟨Below.refl _ _, hc⟩
  obtain ⟨⟨kz0, kc0, kf0⟩, ⟨kz1, kc1, kf1⟩, ⟨kz2, kc2, kf2⟩, ⟨kz3, kc3, kf3⟩, _⟩ := hc
  rcases H with ⟨h, rfl, rfl, rfl⟩ | ⟨h, ⟨h2, rfl, rfl, rfl⟩ | ⟨h2, h3, rfl, rfl, rfl⟩ | ⟨h2, h3, rfl, rfl, rfl⟩⟩
  · have t1 : decide (0 < p) = true := by simpa using h
    clear L1 L2 h
    go_enter Try.func53, Try.ntmps53
    go_wp2_with fail
    refine (CP.out _).mono ?_
    rintro e w1 ⟨rfl, hb⟩
    have hHeld : Keeps w [(B1, 0, .int .i64 n), (B1, 1, .int .i64 d), (B2, 0, .int .i64 m), (B2, 1, .int .i64 e), (w.heap.size, 0, .int .i64 0), (w.heap.size, 1, .int .i64 0)] w1 := Keeps.next ((hk.alloc _).app (newK2 (hk.alloc _))) hb
    clear hb kz0 kc0 kf0 kz1 kc1 kf1 kz2 kc2 kf2 kz3 kc3 kf3
    obtain ⟨⟨kz0, kc0, kf0⟩, ⟨kz1, kc1, kf1⟩, ⟨kz2, kc2, kf2⟩, ⟨kz3, kc3, kf3⟩, ⟨kz4, kc4, kf4⟩, ⟨kz5, kc5, kf5⟩, _⟩ := hHeld.2
    skip
    go_wp2_with fail
    obtain ⟨d0, d1⟩ := set2 (W := w1) (B := w.heap.size) (u0 := .int .i64 0) (u1 := .int .i64 0) kc4 kc5
    refine bodyPost_ret (v := .tuple #[slV 0 0, .int .i64 2]) (by simp [results, Try.results53, go_sem, d0, d1]) rfl ?_
    exact ⟨rfl, by first | (with_reducible exact hHeld.1) | (have hB := hHeld.1; have hz := hB.size; go_grown)⟩
  · have t1 : decide (0 < p) = false := by simpa using h
    have t2 : decide (0 < n) = true := by simpa using h2
    clear L2 h h2
    go_enter Try.func53, Try.ntmps53
    go_wp2_with fail
    refine (CP.out _).mono ?_
    rintro e w1 ⟨rfl, hb⟩
    have hHeld : Keeps w [(B1, 0, .int .i64 n), (B1, 1, .int .i64 d), (B2, 0, .int .i64 m), (B2, 1, .int .i64 e), (w.heap.size, 0, .int .i64 0), (w.heap.size, 1, .int .i64 0)] w1 := Keeps.next ((hk.alloc _).app (newK2 (hk.alloc _))) hb
    clear hb kz0 kc0 kf0 kz1 kc1 kf1 kz2 kc2 kf2 kz3 kc3 kf3
    obtain ⟨⟨kz0, kc0, kf0⟩, ⟨kz1, kc1, kf1⟩, ⟨kz2, kc2, kf2⟩, ⟨kz3, kc3, kf3⟩, ⟨kz4, kc4, kf4⟩, ⟨kz5, kc5, kf5⟩, _⟩ := hHeld.2
    skip
    go_wp2_with fail
    refine (L1.out _).mono ?_
    rintro e w2 ⟨rfl, hb⟩
    replace hHeld := Keeps.next (hHeld) hb
    clear hb kz0 kc0 kf0 kz1 kc1 kf1 kz2 kc2 kf2 kz3 kc3 kf3 kz4 kc4 kf4 kz5 kc5 kf5
    obtain ⟨⟨kz0, kc0, kf0⟩, ⟨kz1, kc1, kf1⟩, ⟨kz2, kc2, kf2⟩, ⟨kz3, kc3, kf3⟩, ⟨kz4, kc4, kf4⟩, ⟨kz5, kc5, kf5⟩, _⟩ := hHeld.2
    go_wp2_with fail
    obtain ⟨d0, d1⟩ := set2 (W := w2) (B := w.heap.size) (u0 := .int .i64 x) (u1 := .int .i64 y) kc4 kc5
    refine bodyPost_ret (v := .tuple #[slV x y, .int .i64 0]) (by simp [results, Try.results53, go_sem, d0, d1]) rfl ?_
    exact ⟨rfl, by first | (with_reducible exact hHeld.1) | (have hB := hHeld.1; have hz := hB.size; go_grown)⟩
  · have t1 : decide (0 < p) = false := by simpa using h
    have t2 : decide (0 < n) = false := by simpa using h2
    have t3 : decide (m < 0) = true := by simpa using h3
    clear L1 h h2 h3
    go_enter Try.func53, Try.ntmps53
    go_wp2_with fail
    refine (CP.out _).mono ?_
    rintro e w1 ⟨rfl, hb⟩
    have hHeld : Keeps w [(B1, 0, .int .i64 n), (B1, 1, .int .i64 d), (B2, 0, .int .i64 m), (B2, 1, .int .i64 e), (w.heap.size, 0, .int .i64 0), (w.heap.size, 1, .int .i64 0)] w1 := Keeps.next ((hk.alloc _).app (newK2 (hk.alloc _))) hb
    clear hb kz0 kc0 kf0 kz1 kc1 kf1 kz2 kc2 kf2 kz3 kc3 kf3
    obtain ⟨⟨kz0, kc0, kf0⟩, ⟨kz1, kc1, kf1⟩, ⟨kz2, kc2, kf2⟩, ⟨kz3, kc3, kf3⟩, ⟨kz4, kc4, kf4⟩, ⟨kz5, kc5, kf5⟩, _⟩ := hHeld.2
    skip
    go_wp2_with fail
    refine (L2.out _).mono ?_
    rintro e w2 ⟨rfl, hb⟩
    replace hHeld := Keeps.next (hHeld) hb
    clear hb kz0 kc0 kf0 kz1 kc1 kf1 kz2 kc2 kf2 kz3 kc3 kf3 kz4 kc4 kf4 kz5 kc5 kf5
    obtain ⟨⟨kz0, kc0, kf0⟩, ⟨kz1, kc1, kf1⟩, ⟨kz2, kc2, kf2⟩, ⟨kz3, kc3, kf3⟩, ⟨kz4, kc4, kf4⟩, ⟨kz5, kc5, kf5⟩, _⟩ := hHeld.2
    go_wp2_with fail
    obtain ⟨d0, d1⟩ := set2 (W := w2) (B := w.heap.size) (u0 := .int .i64 x) (u1 := .int .i64 y) kc4 kc5
    refine bodyPost_ret (v := .tuple #[slV x y, .int .i64 0]) (by simp [results, Try.results53, go_sem, d0, d1]) rfl ?_
    exact ⟨rfl, by first | (with_reducible exact hHeld.1) | (have hB := hHeld.1; have hz := hB.size; go_grown)⟩
  · have t1 : decide (0 < p) = false := by simpa using h
    have t2 : decide (0 < n) = false := by simpa using h2
    have t3 : decide (m < 0) = false := by simpa using h3
    clear L1 L2 h h2 h3
    go_enter Try.func53, Try.ntmps53
    go_wp2_with fail
    refine (CP.out _).mono ?_
    rintro e w1 ⟨rfl, hb⟩
    have hHeld : Keeps w [(B1, 0, .int .i64 n), (B1, 1, .int .i64 d), (B2, 0, .int .i64 m), (B2, 1, .int .i64 e), (w.heap.size, 0, .int .i64 0), (w.heap.size, 1, .int .i64 0)] w1 := Keeps.next ((hk.alloc _).app (newK2 (hk.alloc _))) hb
    clear hb kz0 kc0 kf0 kz1 kc1 kf1 kz2 kc2 kf2 kz3 kc3 kf3
    obtain ⟨⟨kz0, kc0, kf0⟩, ⟨kz1, kc1, kf1⟩, ⟨kz2, kc2, kf2⟩, ⟨kz3, kc3, kf3⟩, ⟨kz4, kc4, kf4⟩, ⟨kz5, kc5, kf5⟩, _⟩ := hHeld.2
    skip
    go_wp2_with fail
    obtain ⟨d0, d1⟩ := set2 (W := w1) (B := w.heap.size) (u0 := .int .i64 0) (u1 := .int .i64 1) kc4 kc5
    refine bodyPost_ret (v := .tuple #[slV 0 1, .int .i64 0]) (by simp [results, Try.results53, go_sem, d0, d1]) rfl ?_
    exact ⟨rfl, by first | (with_reducible exact hHeld.1) | (have hB := hHeld.1; have hz := hB.size; go_grown)⟩
set_option maxRecDepth 100000 in
set_option maxHeartbeats 4000000 in
theorem near_any (n d m e x y c : Int) (H : NearI n d m e x y c) (w : World) :
    Calls Try.prog 22 #[slV n d, slV m e] w (Ret w (.tuple #[slV x y, .int .i64 c])) := by
  have CS := fun v W k => checkSlopes_any [(n, d), (m, e)] (by simp) v W k
  rw [bad_two] at CS
  rcases H with ⟨h, rfl, rfl, rfl⟩ | ⟨h, H⟩
  · rw [h] at CS
    simp only [Bool.not_false, if_true] at CS
    replace CS := Lib.hid CS
    have UN := Lib.hid (fun f W => unlessS_no 151 f (by decide) W)
    clear h
    go_enter Try.func22, Try.ntmps22
    go_wp2_with fail
    refine Calls.mono (CS.out _ _ ?_) ?_
    · exact readsS_two (by simp)
    rintro e w1 ⟨rfl, hb⟩
    have hHeld : Keeps w [(w.heap.size + 2, 0, .int .i64 0), (w.heap.size + 2, 1, .int .i64 0)] _ := Keeps.next (by refine ⟨by go_grown, ?_⟩; simp [Cells, go_sem]) hb
    clear hb
    obtain ⟨⟨kz0, kc0, kf0⟩, ⟨kz1, kc1, kf1⟩, _⟩ := hHeld.2
    go_wp2_with fail
    refine (UN.out _ _).mono ?_
    rintro e w2 ⟨rfl, hb⟩
    replace hHeld := Keeps.next (hHeld) hb
    clear hb kz0 kc0 kf0 kz1 kc1 kf1
    obtain ⟨⟨kz0, kc0, kf0⟩, ⟨kz1, kc1, kf1⟩, _⟩ := hHeld.2
    go_wp2_with fail
    obtain ⟨d0, d1⟩ := set2 (W := w2) (B := w.heap.size + 2) (u0 := .int .i64 0) (u1 := .int .i64 0) kc0 kc1
    refine bodyPost_ret (v := .tuple #[slV 0 0, .int .i64 151]) (by simp [results, Try.results22, go_sem, d0, d1]) rfl ?_
    exact ⟨rfl, by first | (with_reducible exact hHeld.1) | (have hB := hHeld.1; have hz := hB.size; go_grown)⟩
  · rw [h] at CS
    simp only [Bool.not_true, Bool.false_eq_true, if_false] at CS
    replace CS := Lib.hid CS
    have N1 := Lib.hid (fun B1 B2 W k => near1_any n d m e x y c h H B1 B2 W k)
    have UN := Lib.hid (fun p1 p2 W k => unlessS_near p1 p2 x y c W k)
    clear h H
    go_enter Try.func22, Try.ntmps22
    go_wp2_with fail
    refine Calls.mono (CS.out _ _ ?_) ?_
    · exact readsS_two (by simp)
    rintro e w1 ⟨rfl, hb⟩
    have hHeld : Keeps w [(w.heap.size + 2, 0, .int .i64 0), (w.heap.size + 2, 1, .int .i64 0), (w.heap.size, 0, .int .i64 n), (w.heap.size, 1, .int .i64 d), (w.heap.size + 1, 0, .int .i64 m), (w.heap.size + 1, 1, .int .i64 e)] _ := Keeps.next (by refine ⟨by go_grown, ?_⟩; simp [Cells, go_sem]) hb
    clear hb
    obtain ⟨⟨kz0, kc0, kf0⟩, ⟨kz1, kc1, kf1⟩, ⟨kz2, kc2, kf2⟩, ⟨kz3, kc3, kf3⟩, ⟨kz4, kc4, kf4⟩, ⟨kz5, kc5, kf5⟩, _⟩ := hHeld.2
    go_wp2_with fail
    refine Calls.mono (UN.out _ _ _ ?_) ?_
    · intro W hW
      exact N1.out _ _ _ (hHeld.2.next hW).2.2
    rintro e w2 ⟨rfl, hb⟩
    replace hHeld := Keeps.next (hHeld) hb
    clear hb kz0 kc0 kf0 kz1 kc1 kf1 kz2 kc2 kf2 kz3 kc3 kf3 kz4 kc4 kf4 kz5 kc5 kf5
    obtain ⟨⟨kz0, kc0, kf0⟩, ⟨kz1, kc1, kf1⟩, ⟨kz2, kc2, kf2⟩, ⟨kz3, kc3, kf3⟩, ⟨kz4, kc4, kf4⟩, ⟨kz5, kc5, kf5⟩, _⟩ := hHeld.2
    go_wp2_with fail
    obtain ⟨d0, d1⟩ := set2 (W := w2) (B := w.heap.size + 2) (u0 := .int .i64 x) (u1 := .int .i64 y) kc0 kc1
    refine bodyPost_ret (v := .tuple #[slV x y, .int .i64 c]) (by simp [results, Try.results22, go_sem, d0, d1]) rfl ?_
    exact ⟨rfl, by first | (with_reducible exact hHeld.1) | (have hB := hHeld.1; have hz := hB.size; go_grown)⟩
end Go.Proofs.Ytldfkfienlcipaa
