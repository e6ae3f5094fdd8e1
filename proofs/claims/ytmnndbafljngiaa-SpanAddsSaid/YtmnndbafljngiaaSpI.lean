/-
  Layer 4: Times and Around, their parts. Conditions: those written at each fact.
-/
import Derived.Test.YtmnndbafljngiaaSpH
namespace Go.Proofs.Ytmnndbafljngiaa
open Go.RowKit Go.Shelf

set_option maxRecDepth 100000 in
set_option maxHeartbeats 4000000 in
theorem gtimes_any (a b : Int) (a1 : -9223372036854775808 ≤ a) (a2 : a ≤ 9223372036854775807) (b1 : -9223372036854775808 ≤ b) (b2 : b ≤ 9223372036854775807) (w : World) : Calls Try.prog 68 #[.int .i64 a, .int .i64 b] w (Ret w (grV (a * b))) := by
  obtain ⟨h, l, M, hh, hl⟩ := mul64s a b
  obtain ⟨e1, e2⟩ := times_facts a b h l a1 a2 b1 b2 hh hl
  replace M := Lib.hid M
  unfold grV
  rw [← e1]
  have E2 := Lib.hid e2
  clear hh hl e1 e2 a1 a2 b1 b2
  generalize rr (a * b) = r at *
  by_cases ga : a < 0
  all_goals by_cases gb : b < 0
  all_goals by_cases gn : wrap64 l < 0
  all_goals
    have E := E2.out _ _ _ rfl rfl rfl
    simp only [ga, gb, gn, if_true, if_false] at E
    replace E := Lib.hid E
    clear E2
    go_enter Try.func68, Try.ntmps68
    go_wp2_with fail
    refine (M.out _).mono ?_
    rintro e w' ⟨rfl, hw'⟩
    subst w'
    go_wp2_with fail
    go_returns
    refine ⟨?_, by go_grown⟩
    have e := E.out
    refine congrArg (fun z => Ending.returned (.agg #[.int .i64 (wrap64 l), .int .i64 z])) ?_
    unfold wrap64 at *
    omega
set_option maxRecDepth 100000 in
set_option maxHeartbeats 2000000 in
theorem timesC_any (x y n : Int) (A N : Nat) (W : World) (i z : Int) (hz : z = x ∧ i = 0 ∨ z = y ∧ i = 1) (hk : Cells [(A, 0, .int .i64 x), (A, 1, .int .i64 y), (N, 0, .int .i64 n)] W)
    (z1 : -9223372036854775808 ≤ z) (z2 : z ≤ 9223372036854775807) (n1 : -9223372036854775808 ≤ n) (n2 : n ≤ 9223372036854775807) :
    Calls Try.prog 67 #[.int .i64 i, .pointer (some ⟨A, 0, none⟩), .pointer (some ⟨N, 0, none⟩)] W (Ret W (grV (z * n))) := by
  have GT := Lib.hid (fun W => gtimes_any z n z1 z2 n1 n2 W)
  unfold grV at *
  generalize nr (z * n) = q0 at *
  generalize rr (z * n) = q1 at *
  clear z1 z2 n1 n2
  have hk0 := hk
  obtain ⟨⟨kz0, kc0, kf0⟩, ⟨kz1, kc1, kf1⟩, ⟨kz2, kc2, kf2⟩, _⟩ := hk
  rcases hz with ⟨rfl, rfl⟩ | ⟨rfl, rfl⟩
  · have ne0 : A ≠ W.heap.size := by omega
    have ne1 : N ≠ W.heap.size := by omega
    go_enter Try.func67, Try.ntmps67
    go_wp2_with fail
    refine region_keepsB (w0 := W) (L := [(A, 0, .int .i64 z), (A, 1, .int .i64 y), (N, 0, .int .i64 n)]) (M := [(W.heap.size, 0, .int .i64 0), (W.heap.size, 1, .int .i64 0)]) (by kernel_rfl) ⟨below_alloc _ _, hk0.alloc _⟩ (newK2 (L := []) ⟨below_alloc _ _, trivial⟩) (fun hHeld0 hT0 => ?_)
    refine wpAnyH_take (i := 0) (oi := ⟨some 5, _, _, _, _, _⟩) (v := ?_) rfl (by kernel_rfl) (by kernel_rfl) (by kernel_rfl) (fun _ _ _ h => h) (Or.inl ⟨by rfl, ?_⟩) (by assumption) ?_
    rotate_left
    · intro wq hSw; go_simp; (try with_reducible rfl)
    try simp only [Act.put, List.setIfInBounds_toArray, List.set_cons_zero, List.set_cons_succ]
    refine wpAnyH_take (i := 1) (oi := ⟨some 6, _, _, _, _, _⟩) (v := ?_) rfl (by kernel_rfl) (by kernel_rfl) (by kernel_rfl) (fun _ _ _ h => h) (Or.inl ⟨by rfl, ?_⟩) (by assumption) ?_
    rotate_left
    · intro wq hSw; go_simp; (try with_reducible rfl)
    try simp only [Act.put, List.setIfInBounds_toArray, List.set_cons_zero, List.set_cons_succ]
    refine wpAnyH_take (i := 2) (oi := ⟨some 7, _, _, _, _, _⟩) (v := ?_) rfl (by kernel_rfl) (by kernel_rfl) (by kernel_rfl) (fun _ _ _ h => h) (Or.inl ⟨by rfl, ?_⟩) (by assumption) ?_
    rotate_left
    · intro wq hSw; obtain ⟨⟨qz0, qc0, qf0⟩, ⟨qz1, qc1, qf1⟩, ⟨qz2, qc2, qf2⟩, _⟩ := hSw.2; go_simp; (try with_reducible rfl)
    try simp only [Act.put, List.setIfInBounds_toArray, List.set_cons_zero, List.set_cons_succ]
    refine wpAnyH_take (i := 3) (oi := ⟨some 8, _, _, _, _, _⟩) (v := ?_) rfl (by kernel_rfl) (by kernel_rfl) (by kernel_rfl) (fun _ _ _ h => h) (Or.inl ⟨by rfl, ?_⟩) (by assumption) ?_
    rotate_left
    · intro wq hSw; obtain ⟨⟨qz0, qc0, qf0⟩, ⟨qz1, qc1, qf1⟩, ⟨qz2, qc2, qf2⟩, _⟩ := hSw.2; go_simp; (try with_reducible rfl)
    try simp only [Act.put, List.setIfInBounds_toArray, List.set_cons_zero, List.set_cons_succ]
    refine wpAnyH_ready (rs := [4]) (by kernel_rfl) (by simp) ?_
    refine AllReadyH.cons (o := ⟨some 9, _, _, _, _, _⟩) rfl (fun K hK => ?_) AllReadyH.nil
    go_simp
    ((with_reducible refine (GT.out _).mono ?_); rintro e w6 ⟨rfl, hb⟩)
    refine hK.out _ _ (hHeld0.next hb) (fun hHeld1 => ?_)
    replace hT0 := hT0.next hb
    clear hK K
    try clear hb
    try simp only [Act.put, List.setIfInBounds_toArray, List.set_cons_zero, List.set_cons_succ]
    refine wpAnyH_ready (rs := [5]) (by kernel_rfl) (by simp) ?_
    refine AllReadyH.cons (o := ⟨none, _, _, _, _, _⟩) rfl (fun K hK => ?_) AllReadyH.nil
    obtain ⟨⟨t0z0, t0c0, t0f0⟩, ⟨t0z1, t0c1, t0f1⟩, _⟩ := hT0.2; (try simp at t0z0); (try simp at t0c0); (try simp at t0f0); (try simp at t0z1); (try simp at t0c1); (try simp at t0f1)
    go_simp
    refine hK.out _ _ (by first | exact hHeld1.alloc _ | (repeat (first | (with_reducible exact hHeld1) | (refine Keeps.set ?_ (by simp <;> omega) (by simp <;> omega) _)))) (fun hHeld2 => ?_)
    clear hK K
    try clear hb
    try simp only [Act.put, List.setIfInBounds_toArray, List.set_cons_zero, List.set_cons_succ]
    refine wpAnyH_done (by kernel_rfl) ?_ _
    have hHeld := hHeld2
    obtain ⟨⟨kz0, kc0, kf0⟩, ⟨kz1, kc1, kf1⟩, ⟨kz2, kc2, kf2⟩, _⟩ := hHeld.2
    all_goals
      go_wp2_with fail
      obtain ⟨d0, d1⟩ := set2 (W := w6) (B := W.heap.size) (u0 := .int .i64 q0) (u1 := .int .i64 q1) t0c0 t0c1
      refine bodyPost_ret (v := .agg #[.int .i64 q0, .int .i64 q1]) (by simp [results, Try.results67, go_sem, d0, d1]) rfl ?_
      exact ⟨rfl, hHeld.1⟩
  · have ne0 : A ≠ W.heap.size := by omega
    have ne1 : N ≠ W.heap.size := by omega
    go_enter Try.func67, Try.ntmps67
    go_wp2_with fail
    refine region_keepsB (w0 := W) (L := [(A, 0, .int .i64 x), (A, 1, .int .i64 z), (N, 0, .int .i64 n)]) (M := [(W.heap.size, 0, .int .i64 0), (W.heap.size, 1, .int .i64 0)]) (by kernel_rfl) ⟨below_alloc _ _, hk0.alloc _⟩ (newK2 (L := []) ⟨below_alloc _ _, trivial⟩) (fun hHeld0 hT0 => ?_)
    refine wpAnyH_take (i := 0) (oi := ⟨some 5, _, _, _, _, _⟩) (v := ?_) rfl (by kernel_rfl) (by kernel_rfl) (by kernel_rfl) (fun _ _ _ h => h) (Or.inl ⟨by rfl, ?_⟩) (by assumption) ?_
    rotate_left
    · intro wq hSw; go_simp; (try with_reducible rfl)
    try simp only [Act.put, List.setIfInBounds_toArray, List.set_cons_zero, List.set_cons_succ]
    refine wpAnyH_take (i := 1) (oi := ⟨some 6, _, _, _, _, _⟩) (v := ?_) rfl (by kernel_rfl) (by kernel_rfl) (by kernel_rfl) (fun _ _ _ h => h) (Or.inl ⟨by rfl, ?_⟩) (by assumption) ?_
    rotate_left
    · intro wq hSw; go_simp; (try with_reducible rfl)
    try simp only [Act.put, List.setIfInBounds_toArray, List.set_cons_zero, List.set_cons_succ]
    refine wpAnyH_take (i := 2) (oi := ⟨some 7, _, _, _, _, _⟩) (v := ?_) rfl (by kernel_rfl) (by kernel_rfl) (by kernel_rfl) (fun _ _ _ h => h) (Or.inl ⟨by rfl, ?_⟩) (by assumption) ?_
    rotate_left
    · intro wq hSw; obtain ⟨⟨qz0, qc0, qf0⟩, ⟨qz1, qc1, qf1⟩, ⟨qz2, qc2, qf2⟩, _⟩ := hSw.2; go_simp; (try with_reducible rfl)
    try simp only [Act.put, List.setIfInBounds_toArray, List.set_cons_zero, List.set_cons_succ]
    refine wpAnyH_take (i := 3) (oi := ⟨some 8, _, _, _, _, _⟩) (v := ?_) rfl (by kernel_rfl) (by kernel_rfl) (by kernel_rfl) (fun _ _ _ h => h) (Or.inl ⟨by rfl, ?_⟩) (by assumption) ?_
    rotate_left
    · intro wq hSw; obtain ⟨⟨qz0, qc0, qf0⟩, ⟨qz1, qc1, qf1⟩, ⟨qz2, qc2, qf2⟩, _⟩ := hSw.2; go_simp; (try with_reducible rfl)
    try simp only [Act.put, List.setIfInBounds_toArray, List.set_cons_zero, List.set_cons_succ]
    refine wpAnyH_ready (rs := [4]) (by kernel_rfl) (by simp) ?_
    refine AllReadyH.cons (o := ⟨some 9, _, _, _, _, _⟩) rfl (fun K hK => ?_) AllReadyH.nil
    go_simp
    ((with_reducible refine (GT.out _).mono ?_); rintro e w6 ⟨rfl, hb⟩)
    refine hK.out _ _ (hHeld0.next hb) (fun hHeld1 => ?_)
    replace hT0 := hT0.next hb
    clear hK K
    try clear hb
    try simp only [Act.put, List.setIfInBounds_toArray, List.set_cons_zero, List.set_cons_succ]
    refine wpAnyH_ready (rs := [5]) (by kernel_rfl) (by simp) ?_
    refine AllReadyH.cons (o := ⟨none, _, _, _, _, _⟩) rfl (fun K hK => ?_) AllReadyH.nil
    obtain ⟨⟨t0z0, t0c0, t0f0⟩, ⟨t0z1, t0c1, t0f1⟩, _⟩ := hT0.2; (try simp at t0z0); (try simp at t0c0); (try simp at t0f0); (try simp at t0z1); (try simp at t0c1); (try simp at t0f1)
    go_simp
    refine hK.out _ _ (by first | exact hHeld1.alloc _ | (repeat (first | (with_reducible exact hHeld1) | (refine Keeps.set ?_ (by simp <;> omega) (by simp <;> omega) _)))) (fun hHeld2 => ?_)
    clear hK K
    try clear hb
    try simp only [Act.put, List.setIfInBounds_toArray, List.set_cons_zero, List.set_cons_succ]
    refine wpAnyH_done (by kernel_rfl) ?_ _
    have hHeld := hHeld2
    obtain ⟨⟨kz0, kc0, kf0⟩, ⟨kz1, kc1, kf1⟩, ⟨kz2, kc2, kf2⟩, _⟩ := hHeld.2
    all_goals
      go_wp2_with fail
      obtain ⟨d0, d1⟩ := set2 (W := w6) (B := W.heap.size) (u0 := .int .i64 q0) (u1 := .int .i64 q1) t0c0 t0c1
      refine bodyPost_ret (v := .agg #[.int .i64 q0, .int .i64 q1]) (by simp [results, Try.results67, go_sem, d0, d1]) rfl ?_
      exact ⟨rfl, hHeld.1⟩
set_option maxRecDepth 100000 in
set_option maxHeartbeats 2000000 in
theorem aroundC_any (x y n : Int) (A V : Nat) (W : World) (i z : Int) (hz : z = x ∧ i = 0 ∨ z = y ∧ i = 1) (hk : Cells [(A, 0, .int .i64 x), (A, 1, .int .i64 y), (V, 0, .int .i64 n)] W)
    (z1 : -9223372036854775808 ≤ z) (z2 : z ≤ 9223372036854775807) (n1 : -9223372036854775808 ≤ n) (n2 : n ≤ 9223372036854775807) :
    Calls Try.prog 70 #[.int .i64 i, .pointer (some ⟨V, 0, none⟩), .pointer (some ⟨A, 0, none⟩)] W (Ret W (grV (n + z))) := by
  have rn : rr n = 0 := (rr_zero n).2 ⟨n1, n2⟩
  have GT := Lib.hid (fun W => gplus_any n z (by unfold Far; omega) z1 z2 W)
  unfold grV at *
  rw [nr_self n rn, rn] at GT
  generalize nr (n + z) = q0 at *
  generalize rr (n + z) = q1 at *
  clear z1 z2 n1 n2 rn
  have hk0 := hk
  obtain ⟨⟨kz0, kc0, kf0⟩, ⟨kz1, kc1, kf1⟩, ⟨kz2, kc2, kf2⟩, _⟩ := hk
  rcases hz with ⟨rfl, rfl⟩ | ⟨rfl, rfl⟩
  · have ne0 : A ≠ W.heap.size := by omega
    have ne1 : V ≠ W.heap.size := by omega
    go_enter Try.func70, Try.ntmps70
    go_wp2_with fail
    refine region_keepsB (w0 := W) (L := [(A, 0, .int .i64 z), (A, 1, .int .i64 y), (V, 0, .int .i64 n)]) (M := [(W.heap.size, 0, .int .i64 0), (W.heap.size, 1, .int .i64 0)]) (by kernel_rfl) ⟨below_alloc _ _, hk0.alloc _⟩ (newK2 (L := []) ⟨below_alloc _ _, trivial⟩) (fun hHeld0 hT0 => ?_)
    refine wpAnyH_take (i := 0) (oi := ⟨some 5, _, _, _, _, _⟩) (v := ?_) rfl (by kernel_rfl) (by kernel_rfl) (by kernel_rfl) (fun _ _ _ h => h) (Or.inl ⟨by rfl, ?_⟩) (by assumption) ?_
    rotate_left
    · intro wq hSw; obtain ⟨⟨qz0, qc0, qf0⟩, ⟨qz1, qc1, qf1⟩, ⟨qz2, qc2, qf2⟩, _⟩ := hSw.2; go_simp; (try with_reducible rfl)
    try simp only [Act.put, List.setIfInBounds_toArray, List.set_cons_zero, List.set_cons_succ]
    refine wpAnyH_take (i := 1) (oi := ⟨some 6, _, _, _, _, _⟩) (v := ?_) rfl (by kernel_rfl) (by kernel_rfl) (by kernel_rfl) (fun _ _ _ h => h) (Or.inl ⟨by rfl, ?_⟩) (by assumption) ?_
    rotate_left
    · intro wq hSw; go_simp; (try with_reducible rfl)
    try simp only [Act.put, List.setIfInBounds_toArray, List.set_cons_zero, List.set_cons_succ]
    refine wpAnyH_take (i := 2) (oi := ⟨some 7, _, _, _, _, _⟩) (v := ?_) rfl (by kernel_rfl) (by kernel_rfl) (by kernel_rfl) (fun _ _ _ h => h) (Or.inl ⟨by rfl, ?_⟩) (by assumption) ?_
    rotate_left
    · intro wq hSw; go_simp; (try with_reducible rfl)
    try simp only [Act.put, List.setIfInBounds_toArray, List.set_cons_zero, List.set_cons_succ]
    refine wpAnyH_take (i := 3) (oi := ⟨some 8, _, _, _, _, _⟩) (v := ?_) rfl (by kernel_rfl) (by kernel_rfl) (by kernel_rfl) (fun _ _ _ h => h) (Or.inl ⟨by rfl, ?_⟩) (by assumption) ?_
    rotate_left
    · intro wq hSw; go_simp; (try with_reducible rfl)
    try simp only [Act.put, List.setIfInBounds_toArray, List.set_cons_zero, List.set_cons_succ]
    refine wpAnyH_take (i := 4) (oi := ⟨some 9, _, _, _, _, _⟩) (v := ?_) rfl (by kernel_rfl) (by kernel_rfl) (by kernel_rfl) (fun _ _ _ h => h) (Or.inl ⟨by rfl, ?_⟩) (by assumption) ?_
    rotate_left
    · intro wq hSw; obtain ⟨⟨qz0, qc0, qf0⟩, ⟨qz1, qc1, qf1⟩, ⟨qz2, qc2, qf2⟩, _⟩ := hSw.2; go_simp; (try with_reducible rfl)
    try simp only [Act.put, List.setIfInBounds_toArray, List.set_cons_zero, List.set_cons_succ]
    refine wpAnyH_ready (rs := [5]) (by kernel_rfl) (by simp) ?_
    refine AllReadyH.cons (o := ⟨some 10, _, _, _, _, _⟩) rfl (fun K hK => ?_) AllReadyH.nil
    go_simp
    ((with_reducible refine (GT.out _).mono ?_); rintro e w6 ⟨rfl, hb⟩)
    refine hK.out _ _ (hHeld0.next hb) (fun hHeld1 => ?_)
    replace hT0 := hT0.next hb
    clear hK K
    try clear hb
    try simp only [Act.put, List.setIfInBounds_toArray, List.set_cons_zero, List.set_cons_succ]
    refine wpAnyH_ready (rs := [6]) (by kernel_rfl) (by simp) ?_
    refine AllReadyH.cons (o := ⟨none, _, _, _, _, _⟩) rfl (fun K hK => ?_) AllReadyH.nil
    obtain ⟨⟨t0z0, t0c0, t0f0⟩, ⟨t0z1, t0c1, t0f1⟩, _⟩ := hT0.2; (try simp at t0z0); (try simp at t0c0); (try simp at t0f0); (try simp at t0z1); (try simp at t0c1); (try simp at t0f1)
    go_simp
    refine hK.out _ _ (by first | exact hHeld1.alloc _ | (repeat (first | (with_reducible exact hHeld1) | (refine Keeps.set ?_ (by simp <;> omega) (by simp <;> omega) _)))) (fun hHeld2 => ?_)
    clear hK K
    try clear hb
    try simp only [Act.put, List.setIfInBounds_toArray, List.set_cons_zero, List.set_cons_succ]
    refine wpAnyH_done (by kernel_rfl) ?_ _
    have hHeld := hHeld2
    obtain ⟨⟨kz0, kc0, kf0⟩, ⟨kz1, kc1, kf1⟩, ⟨kz2, kc2, kf2⟩, _⟩ := hHeld.2
    all_goals
      go_wp2_with fail
      obtain ⟨d0, d1⟩ := set2 (W := w6) (B := W.heap.size) (u0 := .int .i64 q0) (u1 := .int .i64 q1) t0c0 t0c1
      refine bodyPost_ret (v := .agg #[.int .i64 q0, .int .i64 q1]) (by simp [results, Try.results70, go_sem, d0, d1]) rfl ?_
      exact ⟨rfl, hHeld.1⟩
  · have ne0 : A ≠ W.heap.size := by omega
    have ne1 : V ≠ W.heap.size := by omega
    go_enter Try.func70, Try.ntmps70
    go_wp2_with fail
    refine region_keepsB (w0 := W) (L := [(A, 0, .int .i64 x), (A, 1, .int .i64 z), (V, 0, .int .i64 n)]) (M := [(W.heap.size, 0, .int .i64 0), (W.heap.size, 1, .int .i64 0)]) (by kernel_rfl) ⟨below_alloc _ _, hk0.alloc _⟩ (newK2 (L := []) ⟨below_alloc _ _, trivial⟩) (fun hHeld0 hT0 => ?_)
    refine wpAnyH_take (i := 0) (oi := ⟨some 5, _, _, _, _, _⟩) (v := ?_) rfl (by kernel_rfl) (by kernel_rfl) (by kernel_rfl) (fun _ _ _ h => h) (Or.inl ⟨by rfl, ?_⟩) (by assumption) ?_
    rotate_left
    · intro wq hSw; obtain ⟨⟨qz0, qc0, qf0⟩, ⟨qz1, qc1, qf1⟩, ⟨qz2, qc2, qf2⟩, _⟩ := hSw.2; go_simp; (try with_reducible rfl)
    try simp only [Act.put, List.setIfInBounds_toArray, List.set_cons_zero, List.set_cons_succ]
    refine wpAnyH_take (i := 1) (oi := ⟨some 6, _, _, _, _, _⟩) (v := ?_) rfl (by kernel_rfl) (by kernel_rfl) (by kernel_rfl) (fun _ _ _ h => h) (Or.inl ⟨by rfl, ?_⟩) (by assumption) ?_
    rotate_left
    · intro wq hSw; go_simp; (try with_reducible rfl)
    try simp only [Act.put, List.setIfInBounds_toArray, List.set_cons_zero, List.set_cons_succ]
    refine wpAnyH_take (i := 2) (oi := ⟨some 7, _, _, _, _, _⟩) (v := ?_) rfl (by kernel_rfl) (by kernel_rfl) (by kernel_rfl) (fun _ _ _ h => h) (Or.inl ⟨by rfl, ?_⟩) (by assumption) ?_
    rotate_left
    · intro wq hSw; go_simp; (try with_reducible rfl)
    try simp only [Act.put, List.setIfInBounds_toArray, List.set_cons_zero, List.set_cons_succ]
    refine wpAnyH_take (i := 3) (oi := ⟨some 8, _, _, _, _, _⟩) (v := ?_) rfl (by kernel_rfl) (by kernel_rfl) (by kernel_rfl) (fun _ _ _ h => h) (Or.inl ⟨by rfl, ?_⟩) (by assumption) ?_
    rotate_left
    · intro wq hSw; go_simp; (try with_reducible rfl)
    try simp only [Act.put, List.setIfInBounds_toArray, List.set_cons_zero, List.set_cons_succ]
    refine wpAnyH_take (i := 4) (oi := ⟨some 9, _, _, _, _, _⟩) (v := ?_) rfl (by kernel_rfl) (by kernel_rfl) (by kernel_rfl) (fun _ _ _ h => h) (Or.inl ⟨by rfl, ?_⟩) (by assumption) ?_
    rotate_left
    · intro wq hSw; obtain ⟨⟨qz0, qc0, qf0⟩, ⟨qz1, qc1, qf1⟩, ⟨qz2, qc2, qf2⟩, _⟩ := hSw.2; go_simp; (try with_reducible rfl)
    try simp only [Act.put, List.setIfInBounds_toArray, List.set_cons_zero, List.set_cons_succ]
    refine wpAnyH_ready (rs := [5]) (by kernel_rfl) (by simp) ?_
    refine AllReadyH.cons (o := ⟨some 10, _, _, _, _, _⟩) rfl (fun K hK => ?_) AllReadyH.nil
    go_simp
    ((with_reducible refine (GT.out _).mono ?_); rintro e w6 ⟨rfl, hb⟩)
    refine hK.out _ _ (hHeld0.next hb) (fun hHeld1 => ?_)
    replace hT0 := hT0.next hb
    clear hK K
    try clear hb
    try simp only [Act.put, List.setIfInBounds_toArray, List.set_cons_zero, List.set_cons_succ]
    refine wpAnyH_ready (rs := [6]) (by kernel_rfl) (by simp) ?_
    refine AllReadyH.cons (o := ⟨none, _, _, _, _, _⟩) rfl (fun K hK => ?_) AllReadyH.nil
    obtain ⟨⟨t0z0, t0c0, t0f0⟩, ⟨t0z1, t0c1, t0f1⟩, _⟩ := hT0.2; (try simp at t0z0); (try simp at t0c0); (try simp at t0f0); (try simp at t0z1); (try simp at t0c1); (try simp at t0f1)
    go_simp
    refine hK.out _ _ (by first | exact hHeld1.alloc _ | (repeat (first | (with_reducible exact hHeld1) | (refine Keeps.set ?_ (by simp <;> omega) (by simp <;> omega) _)))) (fun hHeld2 => ?_)
    clear hK K
    try clear hb
    try simp only [Act.put, List.setIfInBounds_toArray, List.set_cons_zero, List.set_cons_succ]
    refine wpAnyH_done (by kernel_rfl) ?_ _
    have hHeld := hHeld2
    obtain ⟨⟨kz0, kc0, kf0⟩, ⟨kz1, kc1, kf1⟩, ⟨kz2, kc2, kf2⟩, _⟩ := hHeld.2
    all_goals
      go_wp2_with fail
      obtain ⟨d0, d1⟩ := set2 (W := w6) (B := W.heap.size) (u0 := .int .i64 q0) (u1 := .int .i64 q1) t0c0 t0c1
      refine bodyPost_ret (v := .agg #[.int .i64 q0, .int .i64 q1]) (by simp [results, Try.results70, go_sem, d0, d1]) rfl ?_
      exact ⟨rfl, hHeld.1⟩
end Go.Proofs.Ytmnndbafljngiaa
