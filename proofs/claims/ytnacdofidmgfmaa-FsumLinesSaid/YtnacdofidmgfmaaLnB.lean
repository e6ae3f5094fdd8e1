/-
  Layer 5: slopes: which may be, their lowest terms; times, and values that may be told. Conditions: those written at each fact.
-/
import Derived.Test.YtnacdofidmgfmaaLnA
import Derived.Test.YtnacdofidmgfmaaSpC
import Derived.Test.YtnacdofidmgfmaaKitY
namespace Go.Proofs.Ytnacdofidmgfmaa
open Go.RowKit

def timeB (t : Int) : Bool := decide (0 ≤ t) && decide (t ≤ 281474976710656)
def backB (v : Int) : Bool := decide (-2305844108725321728 ≤ v) && decide (v ≤ 2305844108725321728)
theorem timeB_iff (t : Int) : timeB t = true ↔ 0 ≤ t ∧ t ≤ 281474976710656 := by unfold timeB; simp
theorem backB_iff (v : Int) : backB v = true ↔ -2305844108725321728 ≤ v ∧ v ≤ 2305844108725321728 := by unfold backB; simp
theorem isTime_any (t : Int) (w : World) : Calls Try.prog 94 #[.int .i64 t] w (Ret w (.bool (timeB t))) := by
  unfold timeB
  cases g : decide (0 ≤ t)
  · go_enter Try.func94, Try.ntmps94
    go_wp2
    go_ret
    exact ⟨rfl, by go_grown⟩
  · go_enter Try.func94, Try.ntmps94
    go_wp2
    go_ret
    exact ⟨rfl, by go_grown⟩
theorem isBack_any (v : Int) (w : World) : Calls Try.prog 53 #[.int .i64 v] w (Ret w (.bool (backB v))) := by
  unfold backB
  cases g : decide (-2305844108725321728 ≤ v)
  · go_enter Try.func53, Try.ntmps53
    go_wp2
    go_ret
    exact ⟨rfl, by go_grown⟩
  · go_enter Try.func53, Try.ntmps53
    go_wp2
    go_ret
    exact ⟨rfl, by go_grown⟩
set_option maxRecDepth 100000 in
set_option maxHeartbeats 2000000 in
theorem lowest_any (n d : Int) (h : slopeB n d = true) (w : World) : Calls Try.prog 55 #[slV n d] w (Ret w (slV (lowN n d) (lowD n d))) := by
  obtain ⟨h1, h2, h3, h4⟩ := (slopeB_iff n d).1 h
  have hb := (slopeB_iff _ _).1 (low_bounds h)
  obtain ⟨e1, e2⟩ := low_mul n d
  have gp := gcdI_pos (n := n) h3
  have q1 := tdiv_of_mul gp e1
  have q2 := tdiv_of_mul gp e2
  have eg : ∀ x : Int, x = ((n.natAbs : Nat) : Int) → ((Int.gcd d x : Nat) : Int) = gcdI n d := by
    intro x hx
    unfold gcdI
    rw [hx, Int.gcd_comm]
    rfl
  have DV : ∀ x, x = ((n.natAbs : Nat) : Int) → ∀ W, Calls Try.prog 92 #[.int .i64 d, .int .i64 x] W (Ret W (.int .i64 (gcdI n d))) := by
    intro x hx W
    rw [← eg x hx]
    exact divisor_any d x (by omega) (by omega) (by omega) (by omega) W
  generalize gcdI n d = g at *
  generalize lowN n d = a at *
  generalize lowD n d = b at *
  have z1 : IntKind.i64.wrap (n.tdiv g) = a := by rw [q1, IntKind.wrap_i64]; omega
  have z2 : IntKind.i64.wrap (d.tdiv g) = b := by rw [q2, IntKind.wrap_i64]; omega
  have g0 : ¬ g = 0 := by omega
  clear q1 q2 eg h e1 e2 hb
  rcases Int.lt_trichotomy n (-n) with c | c | c
  · replace DV := Lib.hid (DV (-n) (by omega))
    go_enter Try.func55, Try.ntmps55
    go_wp2_with fail
    refine (DV.out _).mono ?_
    rintro e w1 ⟨rfl, hb⟩
    have hHeld : Keeps w [(w.heap.size, 0, .int .i64 n), (w.heap.size, 1, .int .i64 d), (w.heap.size + 1, 0, .int .i64 0), (w.heap.size + 1, 1, .int .i64 0)] _ := Keeps.next (by refine ⟨by go_grown, ?_⟩; simp [Cells, go_sem]) hb
    clear hb
    obtain ⟨⟨kz0, kc0, kf0⟩, ⟨kz1, kc1, kf1⟩, ⟨kz2, kc2, kf2⟩, ⟨kz3, kc3, kf3⟩, _⟩ := hHeld.2
    go_wp2_with fail
    refine region_keepsB (w0 := w) (L := [(w.heap.size, 0, .int .i64 n), (w.heap.size, 1, .int .i64 d)]) (M := [(w.heap.size + 1, 0, .int .i64 0), (w.heap.size + 1, 1, .int .i64 0)]) (by kernel_rfl) ⟨hHeld.1, ⟨kz0, kc0, kf0⟩, ⟨kz1, kc1, kf1⟩, trivial⟩ ⟨hHeld.1, ⟨kz2, kc2, kf2⟩, ⟨kz3, kc3, kf3⟩, trivial⟩ (fun hHeld0 hT0 => ?_)
    refine wpAnyH_take (i := 0) (oi := ⟨some 13, _, _, _, _, _⟩) (v := ?_) rfl (by kernel_rfl) (by kernel_rfl) (by kernel_rfl) (fun _ _ _ h => h) (Or.inl ⟨by rfl, ?_⟩) (by assumption) ?_
    rotate_left
    · intro wq hSw; go_simp; (try with_reducible rfl)
    try simp only [Act.put, List.setIfInBounds_toArray, List.set_cons_zero, List.set_cons_succ]
    refine wpAnyH_take (i := 1) (oi := ⟨some 14, _, _, _, _, _⟩) (v := ?_) rfl (by kernel_rfl) (by kernel_rfl) (by kernel_rfl) (fun _ _ _ h => h) (Or.inl ⟨by rfl, ?_⟩) (by assumption) ?_
    rotate_left
    · intro wq hSw; obtain ⟨⟨qz0, qc0, qf0⟩, ⟨qz1, qc1, qf1⟩, _⟩ := hSw.2; go_simp; (try with_reducible rfl)
    try simp only [Act.put, List.setIfInBounds_toArray, List.set_cons_zero, List.set_cons_succ]
    refine wpAnyH_take (i := 2) (oi := ⟨some 15, _, _, _, _, _⟩) (v := ?_) rfl (by kernel_rfl) (by kernel_rfl) (by kernel_rfl) (fun _ _ _ h => h) (Or.inl ⟨by rfl, ?_⟩) (by assumption) ?_
    rotate_left
    · intro wq hSw; go_simp; (try with_reducible rfl)
    try simp only [Act.put, List.setIfInBounds_toArray, List.set_cons_zero, List.set_cons_succ]
    refine wpAnyH_take (i := 3) (oi := ⟨some 16, _, _, _, _, _⟩) (v := ?_) rfl (by kernel_rfl) (by kernel_rfl) (by kernel_rfl) (fun _ _ _ h => h) (Or.inl ⟨by rfl, ?_⟩) (by assumption) ?_
    rotate_left
    · intro wq hSw; go_simp; (try with_reducible rfl)
    try simp only [Act.put, List.setIfInBounds_toArray, List.set_cons_zero, List.set_cons_succ]
    refine wpAnyH_take (i := 4) (oi := ⟨some 17, _, _, _, _, _⟩) (v := ?_) rfl (by kernel_rfl) (by kernel_rfl) (by kernel_rfl) (fun _ _ _ h => h) (Or.inl ⟨by rfl, ?_⟩) (by assumption) ?_
    rotate_left
    · intro wq hSw; go_simp; (try with_reducible rfl)
    try simp only [Act.put, List.setIfInBounds_toArray, List.set_cons_zero, List.set_cons_succ]
    refine wpAnyH_take (i := 5) (oi := ⟨some 18, _, _, _, _, _⟩) (v := ?_) rfl (by kernel_rfl) (by kernel_rfl) (by kernel_rfl) (fun _ _ _ h => h) (Or.inl ⟨by rfl, ?_⟩) (by assumption) ?_
    rotate_left
    · intro wq hSw; obtain ⟨⟨qz0, qc0, qf0⟩, ⟨qz1, qc1, qf1⟩, _⟩ := hSw.2; go_simp; (try with_reducible rfl)
    try simp only [Act.put, List.setIfInBounds_toArray, List.set_cons_zero, List.set_cons_succ]
    refine wpAnyH_take (i := 6) (oi := ⟨some 19, _, _, _, _, _⟩) (v := ?_) rfl (by kernel_rfl) (by kernel_rfl) (by kernel_rfl) (fun _ _ _ h => h) (Or.inl ⟨by rfl, ?_⟩) (by assumption) ?_
    rotate_left
    · intro wq hSw; go_simp; (try with_reducible rfl)
    try simp only [Act.put, List.setIfInBounds_toArray, List.set_cons_zero, List.set_cons_succ]
    refine wpAnyH_take (i := 7) (oi := ⟨some 20, _, _, _, _, _⟩) (v := ?_) rfl (by kernel_rfl) (by kernel_rfl) (by kernel_rfl) (fun _ _ _ h => h) (Or.inl ⟨by rfl, ?_⟩) (by assumption) ?_
    rotate_left
    · intro wq hSw; go_simp; (try with_reducible rfl)
    try simp only [Act.put, List.setIfInBounds_toArray, List.set_cons_zero, List.set_cons_succ]
    refine wpAnyH_take (i := 8) (oi := ⟨some 21, _, _, _, _, _⟩) (v := ?_) rfl (by kernel_rfl) (by kernel_rfl) (by kernel_rfl) (fun _ _ _ h => h) (Or.inl ⟨by rfl, ?_⟩) (by assumption) ?_
    rotate_left
    · intro wq hSw; go_simp; (try with_reducible rfl)
    try simp only [Act.put, List.setIfInBounds_toArray, List.set_cons_zero, List.set_cons_succ]
    refine wpAnyH_ready (rs := [9]) (by kernel_rfl) (by simp) ?_
    refine AllReadyH.cons (o := ⟨none, _, _, _, _, _⟩) rfl (fun K hK => ?_) AllReadyH.nil
    obtain ⟨⟨t0z0, t0c0, t0f0⟩, ⟨t0z1, t0c1, t0f1⟩, _⟩ := hT0.2; (try simp at t0z0); (try simp at t0c0); (try simp at t0f0); (try simp at t0z1); (try simp at t0c1); (try simp at t0f1)
    go_simp
    refine hK.out _ _ (by first | exact hHeld0.alloc _ | (repeat (first | (with_reducible exact hHeld0) | (with_reducible exact (Keeps.undrewR hHeld0)) | (refine Keeps.set ?_ (by simp <;> omega) (by simp <;> omega) _) | (with_reducible refine Keeps.drew ?_)))) (fun hHeld1 => ?_)
    clear hK K
    try clear hb
    try simp only [Act.put, List.setIfInBounds_toArray, List.set_cons_zero, List.set_cons_succ]
    refine wpAnyH_done (by kernel_rfl) ?_ _
    have hHeld := hHeld1
    obtain ⟨⟨kz0, kc0, kf0⟩, ⟨kz1, kc1, kf1⟩, _⟩ := hHeld.2
    all_goals
      obtain ⟨d0, d1⟩ := set2 (W := w1) (B := w.heap.size + 1) (u0 := .int .i64 a) (u1 := .int .i64 b) t0c0 t0c1
      rw [z1, z2] at *
      clear kz0 kc0 kf0 kz1 kc1 kf1
      go_wp2_with fail
      refine bodyPost_ret (v := slV a b) (by simp [results, Try.results55, go_sem, d0, d1]) rfl ?_
      exact ⟨rfl, hHeld.1⟩
  · obtain rfl : n = 0 := by omega
    replace DV := Lib.hid (DV 0 (by omega))
    clear h1 h2 c
    go_enter Try.func55, Try.ntmps55
    go_wp2_with fail
    refine (DV.out _).mono ?_
    rintro e w1 ⟨rfl, hb⟩
    have hHeld : Keeps w [(w.heap.size, 0, .int .i64 0), (w.heap.size, 1, .int .i64 d), (w.heap.size + 1, 0, .int .i64 0), (w.heap.size + 1, 1, .int .i64 0)] _ := Keeps.next (by refine ⟨by go_grown, ?_⟩; simp [Cells, go_sem]) hb
    clear hb
    obtain ⟨⟨kz0, kc0, kf0⟩, ⟨kz1, kc1, kf1⟩, ⟨kz2, kc2, kf2⟩, ⟨kz3, kc3, kf3⟩, _⟩ := hHeld.2
    go_wp2_with fail
    refine region_keepsB (w0 := w) (L := [(w.heap.size, 0, .int .i64 0), (w.heap.size, 1, .int .i64 d)]) (M := [(w.heap.size + 1, 0, .int .i64 0), (w.heap.size + 1, 1, .int .i64 0)]) (by kernel_rfl) ⟨hHeld.1, ⟨kz0, kc0, kf0⟩, ⟨kz1, kc1, kf1⟩, trivial⟩ ⟨hHeld.1, ⟨kz2, kc2, kf2⟩, ⟨kz3, kc3, kf3⟩, trivial⟩ (fun hHeld0 hT0 => ?_)
    refine wpAnyH_take (i := 0) (oi := ⟨some 13, _, _, _, _, _⟩) (v := ?_) rfl (by kernel_rfl) (by kernel_rfl) (by kernel_rfl) (fun _ _ _ h => h) (Or.inl ⟨by rfl, ?_⟩) (by assumption) ?_
    rotate_left
    · intro wq hSw; go_simp; (try with_reducible rfl)
    try simp only [Act.put, List.setIfInBounds_toArray, List.set_cons_zero, List.set_cons_succ]
    refine wpAnyH_take (i := 1) (oi := ⟨some 14, _, _, _, _, _⟩) (v := ?_) rfl (by kernel_rfl) (by kernel_rfl) (by kernel_rfl) (fun _ _ _ h => h) (Or.inl ⟨by rfl, ?_⟩) (by assumption) ?_
    rotate_left
    · intro wq hSw; obtain ⟨⟨qz0, qc0, qf0⟩, ⟨qz1, qc1, qf1⟩, _⟩ := hSw.2; go_simp; (try with_reducible rfl)
    try simp only [Act.put, List.setIfInBounds_toArray, List.set_cons_zero, List.set_cons_succ]
    refine wpAnyH_take (i := 2) (oi := ⟨some 15, _, _, _, _, _⟩) (v := ?_) rfl (by kernel_rfl) (by kernel_rfl) (by kernel_rfl) (fun _ _ _ h => h) (Or.inl ⟨by rfl, ?_⟩) (by assumption) ?_
    rotate_left
    · intro wq hSw; go_simp; (try with_reducible rfl)
    try simp only [Act.put, List.setIfInBounds_toArray, List.set_cons_zero, List.set_cons_succ]
    refine wpAnyH_take (i := 3) (oi := ⟨some 16, _, _, _, _, _⟩) (v := ?_) rfl (by kernel_rfl) (by kernel_rfl) (by kernel_rfl) (fun _ _ _ h => h) (Or.inl ⟨by rfl, ?_⟩) (by assumption) ?_
    rotate_left
    · intro wq hSw; go_simp; (try with_reducible rfl)
    try simp only [Act.put, List.setIfInBounds_toArray, List.set_cons_zero, List.set_cons_succ]
    refine wpAnyH_take (i := 4) (oi := ⟨some 17, _, _, _, _, _⟩) (v := ?_) rfl (by kernel_rfl) (by kernel_rfl) (by kernel_rfl) (fun _ _ _ h => h) (Or.inl ⟨by rfl, ?_⟩) (by assumption) ?_
    rotate_left
    · intro wq hSw; go_simp; (try with_reducible rfl)
    try simp only [Act.put, List.setIfInBounds_toArray, List.set_cons_zero, List.set_cons_succ]
    refine wpAnyH_take (i := 5) (oi := ⟨some 18, _, _, _, _, _⟩) (v := ?_) rfl (by kernel_rfl) (by kernel_rfl) (by kernel_rfl) (fun _ _ _ h => h) (Or.inl ⟨by rfl, ?_⟩) (by assumption) ?_
    rotate_left
    · intro wq hSw; obtain ⟨⟨qz0, qc0, qf0⟩, ⟨qz1, qc1, qf1⟩, _⟩ := hSw.2; go_simp; (try with_reducible rfl)
    try simp only [Act.put, List.setIfInBounds_toArray, List.set_cons_zero, List.set_cons_succ]
    refine wpAnyH_take (i := 6) (oi := ⟨some 19, _, _, _, _, _⟩) (v := ?_) rfl (by kernel_rfl) (by kernel_rfl) (by kernel_rfl) (fun _ _ _ h => h) (Or.inl ⟨by rfl, ?_⟩) (by assumption) ?_
    rotate_left
    · intro wq hSw; go_simp; (try with_reducible rfl)
    try simp only [Act.put, List.setIfInBounds_toArray, List.set_cons_zero, List.set_cons_succ]
    refine wpAnyH_take (i := 7) (oi := ⟨some 20, _, _, _, _, _⟩) (v := ?_) rfl (by kernel_rfl) (by kernel_rfl) (by kernel_rfl) (fun _ _ _ h => h) (Or.inl ⟨by rfl, ?_⟩) (by assumption) ?_
    rotate_left
    · intro wq hSw; go_simp; (try with_reducible rfl)
    try simp only [Act.put, List.setIfInBounds_toArray, List.set_cons_zero, List.set_cons_succ]
    refine wpAnyH_take (i := 8) (oi := ⟨some 21, _, _, _, _, _⟩) (v := ?_) rfl (by kernel_rfl) (by kernel_rfl) (by kernel_rfl) (fun _ _ _ h => h) (Or.inl ⟨by rfl, ?_⟩) (by assumption) ?_
    rotate_left
    · intro wq hSw; go_simp; (try with_reducible rfl)
    try simp only [Act.put, List.setIfInBounds_toArray, List.set_cons_zero, List.set_cons_succ]
    refine wpAnyH_ready (rs := [9]) (by kernel_rfl) (by simp) ?_
    refine AllReadyH.cons (o := ⟨none, _, _, _, _, _⟩) rfl (fun K hK => ?_) AllReadyH.nil
    obtain ⟨⟨t0z0, t0c0, t0f0⟩, ⟨t0z1, t0c1, t0f1⟩, _⟩ := hT0.2; (try simp at t0z0); (try simp at t0c0); (try simp at t0f0); (try simp at t0z1); (try simp at t0c1); (try simp at t0f1)
    go_simp
    refine hK.out _ _ (by first | exact hHeld0.alloc _ | (repeat (first | (with_reducible exact hHeld0) | (with_reducible exact (Keeps.undrewR hHeld0)) | (refine Keeps.set ?_ (by simp <;> omega) (by simp <;> omega) _) | (with_reducible refine Keeps.drew ?_)))) (fun hHeld1 => ?_)
    clear hK K
    try clear hb
    try simp only [Act.put, List.setIfInBounds_toArray, List.set_cons_zero, List.set_cons_succ]
    refine wpAnyH_done (by kernel_rfl) ?_ _
    have hHeld := hHeld1
    obtain ⟨⟨kz0, kc0, kf0⟩, ⟨kz1, kc1, kf1⟩, _⟩ := hHeld.2
    all_goals
      obtain ⟨d0, d1⟩ := set2 (W := w1) (B := w.heap.size + 1) (u0 := .int .i64 a) (u1 := .int .i64 b) t0c0 t0c1
      rw [Int.zero_tdiv] at z1
      rw [z1, z2] at *
      clear kz0 kc0 kf0 kz1 kc1 kf1
      go_wp2_with fail
      refine bodyPost_ret (v := slV a b) (by simp [results, Try.results55, go_sem, d0, d1]) rfl ?_
      exact ⟨rfl, hHeld.1⟩
  · replace DV := Lib.hid (DV n (by omega))
    have c0 : ¬ n < -n := by omega
    go_enter Try.func55, Try.ntmps55
    go_wp2_with fail
    refine (DV.out _).mono ?_
    rintro e w1 ⟨rfl, hb⟩
    have hHeld : Keeps w [(w.heap.size, 0, .int .i64 n), (w.heap.size, 1, .int .i64 d), (w.heap.size + 1, 0, .int .i64 0), (w.heap.size + 1, 1, .int .i64 0)] _ := Keeps.next (by refine ⟨by go_grown, ?_⟩; simp [Cells, go_sem]) hb
    clear hb
    obtain ⟨⟨kz0, kc0, kf0⟩, ⟨kz1, kc1, kf1⟩, ⟨kz2, kc2, kf2⟩, ⟨kz3, kc3, kf3⟩, _⟩ := hHeld.2
    go_wp2_with fail
    refine region_keepsB (w0 := w) (L := [(w.heap.size, 0, .int .i64 n), (w.heap.size, 1, .int .i64 d)]) (M := [(w.heap.size + 1, 0, .int .i64 0), (w.heap.size + 1, 1, .int .i64 0)]) (by kernel_rfl) ⟨hHeld.1, ⟨kz0, kc0, kf0⟩, ⟨kz1, kc1, kf1⟩, trivial⟩ ⟨hHeld.1, ⟨kz2, kc2, kf2⟩, ⟨kz3, kc3, kf3⟩, trivial⟩ (fun hHeld0 hT0 => ?_)
    refine wpAnyH_take (i := 0) (oi := ⟨some 13, _, _, _, _, _⟩) (v := ?_) rfl (by kernel_rfl) (by kernel_rfl) (by kernel_rfl) (fun _ _ _ h => h) (Or.inl ⟨by rfl, ?_⟩) (by assumption) ?_
    rotate_left
    · intro wq hSw; go_simp; (try with_reducible rfl)
    try simp only [Act.put, List.setIfInBounds_toArray, List.set_cons_zero, List.set_cons_succ]
    refine wpAnyH_take (i := 1) (oi := ⟨some 14, _, _, _, _, _⟩) (v := ?_) rfl (by kernel_rfl) (by kernel_rfl) (by kernel_rfl) (fun _ _ _ h => h) (Or.inl ⟨by rfl, ?_⟩) (by assumption) ?_
    rotate_left
    · intro wq hSw; obtain ⟨⟨qz0, qc0, qf0⟩, ⟨qz1, qc1, qf1⟩, _⟩ := hSw.2; go_simp; (try with_reducible rfl)
    try simp only [Act.put, List.setIfInBounds_toArray, List.set_cons_zero, List.set_cons_succ]
    refine wpAnyH_take (i := 2) (oi := ⟨some 15, _, _, _, _, _⟩) (v := ?_) rfl (by kernel_rfl) (by kernel_rfl) (by kernel_rfl) (fun _ _ _ h => h) (Or.inl ⟨by rfl, ?_⟩) (by assumption) ?_
    rotate_left
    · intro wq hSw; go_simp; (try with_reducible rfl)
    try simp only [Act.put, List.setIfInBounds_toArray, List.set_cons_zero, List.set_cons_succ]
    refine wpAnyH_take (i := 3) (oi := ⟨some 16, _, _, _, _, _⟩) (v := ?_) rfl (by kernel_rfl) (by kernel_rfl) (by kernel_rfl) (fun _ _ _ h => h) (Or.inl ⟨by rfl, ?_⟩) (by assumption) ?_
    rotate_left
    · intro wq hSw; go_simp; (try with_reducible rfl)
    try simp only [Act.put, List.setIfInBounds_toArray, List.set_cons_zero, List.set_cons_succ]
    refine wpAnyH_take (i := 4) (oi := ⟨some 17, _, _, _, _, _⟩) (v := ?_) rfl (by kernel_rfl) (by kernel_rfl) (by kernel_rfl) (fun _ _ _ h => h) (Or.inl ⟨by rfl, ?_⟩) (by assumption) ?_
    rotate_left
    · intro wq hSw; go_simp; (try with_reducible rfl)
    try simp only [Act.put, List.setIfInBounds_toArray, List.set_cons_zero, List.set_cons_succ]
    refine wpAnyH_take (i := 5) (oi := ⟨some 18, _, _, _, _, _⟩) (v := ?_) rfl (by kernel_rfl) (by kernel_rfl) (by kernel_rfl) (fun _ _ _ h => h) (Or.inl ⟨by rfl, ?_⟩) (by assumption) ?_
    rotate_left
    · intro wq hSw; obtain ⟨⟨qz0, qc0, qf0⟩, ⟨qz1, qc1, qf1⟩, _⟩ := hSw.2; go_simp; (try with_reducible rfl)
    try simp only [Act.put, List.setIfInBounds_toArray, List.set_cons_zero, List.set_cons_succ]
    refine wpAnyH_take (i := 6) (oi := ⟨some 19, _, _, _, _, _⟩) (v := ?_) rfl (by kernel_rfl) (by kernel_rfl) (by kernel_rfl) (fun _ _ _ h => h) (Or.inl ⟨by rfl, ?_⟩) (by assumption) ?_
    rotate_left
    · intro wq hSw; go_simp; (try with_reducible rfl)
    try simp only [Act.put, List.setIfInBounds_toArray, List.set_cons_zero, List.set_cons_succ]
    refine wpAnyH_take (i := 7) (oi := ⟨some 20, _, _, _, _, _⟩) (v := ?_) rfl (by kernel_rfl) (by kernel_rfl) (by kernel_rfl) (fun _ _ _ h => h) (Or.inl ⟨by rfl, ?_⟩) (by assumption) ?_
    rotate_left
    · intro wq hSw; go_simp; (try with_reducible rfl)
    try simp only [Act.put, List.setIfInBounds_toArray, List.set_cons_zero, List.set_cons_succ]
    refine wpAnyH_take (i := 8) (oi := ⟨some 21, _, _, _, _, _⟩) (v := ?_) rfl (by kernel_rfl) (by kernel_rfl) (by kernel_rfl) (fun _ _ _ h => h) (Or.inl ⟨by rfl, ?_⟩) (by assumption) ?_
    rotate_left
    · intro wq hSw; go_simp; (try with_reducible rfl)
    try simp only [Act.put, List.setIfInBounds_toArray, List.set_cons_zero, List.set_cons_succ]
    refine wpAnyH_ready (rs := [9]) (by kernel_rfl) (by simp) ?_
    refine AllReadyH.cons (o := ⟨none, _, _, _, _, _⟩) rfl (fun K hK => ?_) AllReadyH.nil
    obtain ⟨⟨t0z0, t0c0, t0f0⟩, ⟨t0z1, t0c1, t0f1⟩, _⟩ := hT0.2; (try simp at t0z0); (try simp at t0c0); (try simp at t0f0); (try simp at t0z1); (try simp at t0c1); (try simp at t0f1)
    go_simp
    refine hK.out _ _ (by first | exact hHeld0.alloc _ | (repeat (first | (with_reducible exact hHeld0) | (with_reducible exact (Keeps.undrewR hHeld0)) | (refine Keeps.set ?_ (by simp <;> omega) (by simp <;> omega) _) | (with_reducible refine Keeps.drew ?_)))) (fun hHeld1 => ?_)
    clear hK K
    try clear hb
    try simp only [Act.put, List.setIfInBounds_toArray, List.set_cons_zero, List.set_cons_succ]
    refine wpAnyH_done (by kernel_rfl) ?_ _
    have hHeld := hHeld1
    obtain ⟨⟨kz0, kc0, kf0⟩, ⟨kz1, kc1, kf1⟩, _⟩ := hHeld.2
    all_goals
      obtain ⟨d0, d1⟩ := set2 (W := w1) (B := w.heap.size + 1) (u0 := .int .i64 a) (u1 := .int .i64 b) t0c0 t0c1
      rw [z1, z2] at *
      clear kz0 kc0 kf0 kz1 kc1 kf1
      go_wp2_with fail
      refine bodyPost_ret (v := slV a b) (by simp [results, Try.results55, go_sem, d0, d1]) rfl ?_
      exact ⟨rfl, hHeld.1⟩
/-- May all of them be slopes? -/
def badL (l : List (Int × Int)) : Bool := l.any fun s => !slopeB s.1 s.2
theorem badL_next {s : Int × Int} {l : List (Int × Int)} {k : Nat} (h : l[k]? = some s) (h1 : badL (l.take k) = false) (h2 : slopeB s.1 s.2 = true) : badL (l.take (k + 1)) = false := by
  obtain ⟨a1, e1⟩ := List.getElem?_eq_some_iff.1 h
  unfold badL at *
  rw [List.take_succ_eq_append_getElem a1, e1, List.any_append, h1]
  simpa using h2
theorem badL_here {s : Int × Int} {l : List (Int × Int)} {k : Nat} (h : l[k]? = some s) (h2 : slopeB s.1 s.2 = false) : badL l = true := by
  obtain ⟨a1, e1⟩ := List.getElem?_eq_some_iff.1 h
  unfold badL
  rw [List.any_eq_true]
  exact ⟨s, e1 ▸ List.getElem_mem a1, by simpa using h2⟩
set_option maxRecDepth 100000 in
set_option maxHeartbeats 2000000 in
theorem checkSlopes_any (l : List (Int × Int)) (hl : l.length ≤ 10000000) (v : Value) (w : World) (h : ReadsS w v l) :
    Calls Try.prog 51 #[v] w (Ret w (.int .i64 (if badL l then 151 else 0))) := by
  obtain ⟨A, c, rfl, hk⟩ := h
  obtain ⟨R, hR⟩ : ∃ R : Value, R = .int .i64 (if badL l then 151 else 0) := ⟨_, rfl⟩
  rw [← hR]
  have HK := Lib.hid hk
  replace hR := Lib.hid hR
  clear hk
  go_enter Try.func51, Try.ntmps51
  go_wp2_with fail
  go_loopw [7] (fun i wr => ∃ k : Nat, i = .int .i64 k ∧ k ≤ l.length ∧ Hid (badL (l.take k) = false) ∧ Keeps w [] wr) (fun i _ => l.length - (intOf i).toNat)
  case atStart => exact ⟨0, rfl, by omega, Lib.hid (by simp [badL]), ⟨by go_grown, trivial⟩⟩
  case round =>
    obtain ⟨k, rfl, hkl, hT, hHeld⟩ := hrel
    by_cases gk : k < l.length
    · obtain ⟨⟨x, y⟩, hx⟩ : ∃ s, l[k]? = some s := ⟨_, List.getElem?_eq_getElem gk⟩
      obtain ⟨bb, off, rfl, hbw, hc1, hc2⟩ := HK.out k _ hx
      have c1 := (hHeld.1.cell (p := ⟨bb, off + k * 2, none⟩) hbw).trans hc1
      have c2 := (hHeld.1.cell (p := ⟨bb, off + k * 2 + 1, none⟩) hbw).trans hc2
      have i1 : (k : Int) < (l.length : Int) := by omega
      have i0 : (0 : Int) ≤ (k : Int) := by omega
      have HX := Lib.hid hx
      clear hc1 hc2 hx
      simp only at c1 c2
      have HB := Lib.hid (slopeB_iff x y)
      obtain ⟨M, hM⟩ : ∃ M : Int, M = 4611688217450643456 := ⟨_, rfl⟩
      by_cases gs : slopeB x y = true
      · have BN := Lib.hid (badL_next HX.out hT.out gs)
        obtain ⟨s1, s2, s3, s4⟩ := HB.out.1 gs
        have t1 : decide (x < -4611688217450643456) = false := by simp; omega
        have t2 : decide (4611688217450643456 < x) = false := by simp; omega
        have t3 : decide (y < 1) = false := by simp; omega
        have t4 : decide (281474976710656 < y) = false := by simp; omega
        clear s1 s2 s3 s4 gs hT hM
        go_wp2_with fail
        go_roundw
        case rel => exact ⟨k + 1, by simp, by omega, BN, hHeld.alloc _⟩
        case measure => simp [intOf]; omega
      · have BH := Lib.hid (badL_here HX.out (by simpa using gs))
        have hor : ¬ -4611688217450643456 ≤ x ∨ -4611688217450643456 ≤ x ∧ ¬ x ≤ 4611688217450643456 ∨ -4611688217450643456 ≤ x ∧ x ≤ 4611688217450643456 ∧ ¬ 1 ≤ y ∨ -4611688217450643456 ≤ x ∧ x ≤ 4611688217450643456 ∧ 1 ≤ y ∧ ¬ y ≤ 281474976710656 := by
          have := mt HB.out.2 gs
          omega
        clear gs hT hM
        rcases hor with s1 | ⟨s1, s2⟩ | ⟨s1, s2, s3⟩ | ⟨s1, s2, s3, s4⟩
        · have t1 : decide (x < -4611688217450643456) = true := by simp; omega
          clear s1
          go_wp2_with fail
          go_ret
          exact ⟨by rw [hR.out, BH.out]; rfl, (hHeld.alloc _).1⟩
        · have t1 : decide (x < -4611688217450643456) = false := by simp; omega
          have t2 : decide (4611688217450643456 < x) = true := by simp; omega
          clear s1 s2
          go_wp2_with fail
          go_ret
          exact ⟨by rw [hR.out, BH.out]; rfl, (hHeld.alloc _).1⟩
        · have t1 : decide (x < -4611688217450643456) = false := by simp; omega
          have t2 : decide (4611688217450643456 < x) = false := by simp; omega
          have t3 : decide (y < 1) = true := by simp; omega
          clear s1 s2 s3
          go_wp2_with fail
          go_ret
          exact ⟨by rw [hR.out, BH.out]; rfl, (hHeld.alloc _).1⟩
        · have t1 : decide (x < -4611688217450643456) = false := by simp; omega
          have t2 : decide (4611688217450643456 < x) = false := by simp; omega
          have t3 : decide (y < 1) = false := by simp; omega
          have t4 : decide (281474976710656 < y) = true := by simp; omega
          clear s1 s2 s3 s4
          go_wp2_with fail
          go_ret
          exact ⟨by rw [hR.out, BH.out]; rfl, (hHeld.alloc _).1⟩
    · have BT : badL l = false := by have := hT.out; rwa [List.take_of_length_le (by omega)] at this
      have i1 : ¬ (k : Int) < (l.length : Int) := by omega
      go_wp2_with fail
      go_ret
      exact ⟨by rw [hR.out, BT]; rfl, hHeld.1⟩
end Go.Proofs.Ytnacdofidmgfmaa
