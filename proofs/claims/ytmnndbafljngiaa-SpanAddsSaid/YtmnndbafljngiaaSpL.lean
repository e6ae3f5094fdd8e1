/-
  Layer 4: the layer does what its statements ask of it first. Conditions: none.
-/
import Derived.Test.YtmnndbafljngiaaSpK
import Derived.Test.YtmnndbafljngiaaKitY
namespace Go.Proofs.Ytmnndbafljngiaa
open Go.RowKit

set_option maxRecDepth 100000 in
set_option maxHeartbeats 4000000 in
theorem wakes_any (w : World) : Calls Try.prog 11 #[] w (Ret w (.bool true)) := by
  have LE := Lib.hid (fun v W k => (show Calls Try.prog 29 #[v] W (Ret W (.tuple #[spV 1 4, .int .i64 0])) from leastR_any [(1, 5), (3, 4)] (by simp) v W k))
  have MO := Lib.hid (fun v W k => (show Calls Try.prog 30 #[v] W (Ret W (.tuple #[spV 3 5, .int .i64 0])) from mostR_any [(1, 5), (3, 4)] (by simp) v W k))
  have PL := Lib.hid (fun v W k => (show Calls Try.prog 33 #[v] W (Ret W (.tuple #[spV 4 9, .int .i64 0])) from plus_any [(1, 5), (3, 4)] (by intro s hs; simp at hs; rcases hs with rfl | rfl <;> decide) (by simp) v W k))
  have TI := Lib.hid (fun W => (show Calls Try.prog 36 #[spV 1 5, .int .i64 (-3)] W (Ret W (.tuple #[spV (-15) (-3), .int .i64 0])) from times_any 1 5 (-3) (by decide) (by decide) (by decide) (by decide) (by decide) (by decide) W))
  have JO := Lib.hid (fun v W k => (show Calls Try.prog 27 #[v] W (Ret W (.tuple #[spV 3 9, .int .i64 0])) from joinR_any [(3, 4), (9, 9)] (by simp) v W k))
  have ME := Lib.hid (fun v W k => (show Calls Try.prog 28 #[v] W (Ret W (.tuple #[spV 0 0, .int .i64 9])) from meetR_any [(3, 4), (5, 5)] (by simp) v W k))
  have PO := Lib.hid (fun W => point_any 5 W)
  have WI := Lib.hid (fun W => (show Calls Try.prog 18 #[spV 1 5] W (Ret W (.int .u64 4)) from width_any 1 5 (by decide) (by decide) W))
  have HA := Lib.hid (fun W => (show Calls Try.prog 15 #[spV 1 5, .int .i64 5] W (Ret W (.bool true)) from has_any 1 5 5 W))
  have CH := Lib.hid (fun W => (show Calls Try.prog 13 #[spV 1 0] W (Ret W (.int .i64 140)) from check_any 1 0 W))
  go_enter Try.func11, Try.ntmps11
  go_wp2_with fail
  refine Calls.mono (LE.out _ _ ?_) ?_
  · exact readsS_two (by simp)
  rintro e w1 ⟨rfl, hb⟩
  have hHeld : Keeps w [(w.heap.size, 0, .int .i64 1), (w.heap.size, 1, .int .i64 5), (w.heap.size + 1, 0, .int .i64 3), (w.heap.size + 1, 1, .int .i64 4)] _ := Keeps.next (by refine ⟨by go_grown, ?_⟩; simp [Cells, go_sem]) hb
  clear hb
  obtain ⟨⟨kz0, kc0, kf0⟩, ⟨kz1, kc1, kf1⟩, ⟨kz2, kc2, kf2⟩, ⟨kz3, kc3, kf3⟩, _⟩ := hHeld.2
  go_wp2_with fail
  refine Calls.mono (MO.out _ _ ?_) ?_
  · exact readsS_two (by simp)
  rintro e w2 ⟨rfl, hb⟩
  replace hHeld : Keeps w [(w.heap.size, 0, .int .i64 1), (w.heap.size, 1, .int .i64 5), (w.heap.size + 1, 0, .int .i64 3), (w.heap.size + 1, 1, .int .i64 4), (w1.heap.size, 0, .int .i64 1), (w1.heap.size, 1, .int .i64 4)] _ := Keeps.next ((Keeps.alloc ((hHeld.alloc (.cells #[.int .i64 1, .int .i64 4] 23)).app (newK2 (hHeld.alloc (.cells #[.int .i64 1, .int .i64 4] 23)))) _)) hb
  clear hb kz0 kc0 kf0 kz1 kc1 kf1 kz2 kc2 kf2 kz3 kc3 kf3
  obtain ⟨⟨kz0, kc0, kf0⟩, ⟨kz1, kc1, kf1⟩, ⟨kz2, kc2, kf2⟩, ⟨kz3, kc3, kf3⟩, ⟨kz4, kc4, kf4⟩, ⟨kz5, kc5, kf5⟩, _⟩ := hHeld.2
  go_wp2_with fail
  refine Calls.mono (PL.out _ _ ?_) ?_
  · exact readsS_two (by simp)
  rintro e w3 ⟨rfl, hb⟩
  replace hHeld : Keeps w [(w.heap.size, 0, .int .i64 1), (w.heap.size, 1, .int .i64 5), (w.heap.size + 1, 0, .int .i64 3), (w.heap.size + 1, 1, .int .i64 4), (w1.heap.size, 0, .int .i64 1), (w1.heap.size, 1, .int .i64 4), (w2.heap.size, 0, .int .i64 3), (w2.heap.size, 1, .int .i64 5)] _ := Keeps.next ((Keeps.alloc ((hHeld.alloc (.cells #[.int .i64 3, .int .i64 5] 23)).app (newK2 (hHeld.alloc (.cells #[.int .i64 3, .int .i64 5] 23)))) _)) hb
  clear hb kz0 kc0 kf0 kz1 kc1 kf1 kz2 kc2 kf2 kz3 kc3 kf3 kz4 kc4 kf4 kz5 kc5 kf5
  obtain ⟨⟨kz0, kc0, kf0⟩, ⟨kz1, kc1, kf1⟩, ⟨kz2, kc2, kf2⟩, ⟨kz3, kc3, kf3⟩, ⟨kz4, kc4, kf4⟩, ⟨kz5, kc5, kf5⟩, ⟨kz6, kc6, kf6⟩, ⟨kz7, kc7, kf7⟩, _⟩ := hHeld.2
  go_wp2_with fail
  refine (TI.out _).mono ?_
  rintro e w4 ⟨rfl, hb⟩
  replace hHeld : Keeps w [(w.heap.size, 0, .int .i64 1), (w.heap.size, 1, .int .i64 5), (w.heap.size + 1, 0, .int .i64 3), (w.heap.size + 1, 1, .int .i64 4), (w1.heap.size, 0, .int .i64 1), (w1.heap.size, 1, .int .i64 4), (w2.heap.size, 0, .int .i64 3), (w2.heap.size, 1, .int .i64 5), (w3.heap.size, 0, .int .i64 4), (w3.heap.size, 1, .int .i64 9)] _ := Keeps.next (((hHeld.alloc (.cells #[.int .i64 4, .int .i64 9] 23)).app (newK2 (hHeld.alloc (.cells #[.int .i64 4, .int .i64 9] 23))))) hb
  clear hb kz0 kc0 kf0 kz1 kc1 kf1 kz2 kc2 kf2 kz3 kc3 kf3 kz4 kc4 kf4 kz5 kc5 kf5 kz6 kc6 kf6 kz7 kc7 kf7
  obtain ⟨⟨kz0, kc0, kf0⟩, ⟨kz1, kc1, kf1⟩, ⟨kz2, kc2, kf2⟩, ⟨kz3, kc3, kf3⟩, ⟨kz4, kc4, kf4⟩, ⟨kz5, kc5, kf5⟩, ⟨kz6, kc6, kf6⟩, ⟨kz7, kc7, kf7⟩, ⟨kz8, kc8, kf8⟩, ⟨kz9, kc9, kf9⟩, _⟩ := hHeld.2
  go_wp2_with fail
  refine Calls.mono (JO.out _ _ ?_) ?_
  · exact readsS_two (by simp)
  rintro e w5 ⟨rfl, hb⟩
  replace hHeld : Keeps w [(w.heap.size, 0, .int .i64 1), (w.heap.size, 1, .int .i64 5), (w.heap.size + 1, 0, .int .i64 3), (w.heap.size + 1, 1, .int .i64 4), (w1.heap.size, 0, .int .i64 1), (w1.heap.size, 1, .int .i64 4), (w2.heap.size, 0, .int .i64 3), (w2.heap.size, 1, .int .i64 5), (w3.heap.size, 0, .int .i64 4), (w3.heap.size, 1, .int .i64 9), (w4.heap.size, 0, .int .i64 (-15)), (w4.heap.size, 1, .int .i64 (-3))] _ := Keeps.next ((Keeps.alloc ((hHeld.alloc (.cells #[.int .i64 (-15), .int .i64 (-3)] 23)).app (newK2 (hHeld.alloc (.cells #[.int .i64 (-15), .int .i64 (-3)] 23)))) _)) hb
  clear hb kz0 kc0 kf0 kz1 kc1 kf1 kz2 kc2 kf2 kz3 kc3 kf3 kz4 kc4 kf4 kz5 kc5 kf5 kz6 kc6 kf6 kz7 kc7 kf7 kz8 kc8 kf8 kz9 kc9 kf9
  obtain ⟨⟨kz0, kc0, kf0⟩, ⟨kz1, kc1, kf1⟩, ⟨kz2, kc2, kf2⟩, ⟨kz3, kc3, kf3⟩, ⟨kz4, kc4, kf4⟩, ⟨kz5, kc5, kf5⟩, ⟨kz6, kc6, kf6⟩, ⟨kz7, kc7, kf7⟩, ⟨kz8, kc8, kf8⟩, ⟨kz9, kc9, kf9⟩, ⟨kz10, kc10, kf10⟩, ⟨kz11, kc11, kf11⟩, _⟩ := hHeld.2
  go_wp2_with fail
  have HK := (hHeld.alloc (.cells #[.int .i64 3, .int .i64 9] 23)).app (newK2 (hHeld.alloc (.cells #[.int .i64 3, .int .i64 9] 23)))
  clear kz0 kc0 kf0 kz1 kc1 kf1 kz2 kc2 kf2 kz3 kc3 kf3 kz4 kc4 kf4 kz5 kc5 kf5 kz6 kc6 kf6 kz7 kc7 kf7 kz8 kc8 kf8 kz9 kc9 kf9 kz10 kc10 kf10 kz11 kc11 kf11 hHeld LE MO PL TI JO
  refine region_keeps (w0 := w) (L := [(w.heap.size, 0, .int .i64 1), (w.heap.size, 1, .int .i64 5), (w.heap.size + 1, 0, .int .i64 3), (w.heap.size + 1, 1, .int .i64 4), (w1.heap.size, 0, .int .i64 1), (w1.heap.size, 1, .int .i64 4), (w2.heap.size, 0, .int .i64 3), (w2.heap.size, 1, .int .i64 5), (w3.heap.size, 0, .int .i64 4), (w3.heap.size, 1, .int .i64 9), (w4.heap.size, 0, .int .i64 (-15)), (w4.heap.size, 1, .int .i64 (-3)), (w5.heap.size, 0, .int .i64 3), (w5.heap.size, 1, .int .i64 9)]) (by kernel_rfl) HK (fun hHeld0 => ?_)
  refine wpAnyH_take (i := 0) (oi := ⟨some 51, _, _, _, _, _⟩) (v := ?_) rfl (by kernel_rfl) (by kernel_rfl) (by kernel_rfl) (fun _ _ _ h => h) (Or.inl ⟨by rfl, ?_⟩) (by assumption) ?_
  rotate_left
  · intro wq hSw; obtain ⟨⟨qz0, qc0, qf0⟩, ⟨qz1, qc1, qf1⟩, ⟨qz2, qc2, qf2⟩, ⟨qz3, qc3, qf3⟩, ⟨qz4, qc4, qf4⟩, ⟨qz5, qc5, qf5⟩, ⟨qz6, qc6, qf6⟩, ⟨qz7, qc7, qf7⟩, ⟨qz8, qc8, qf8⟩, ⟨qz9, qc9, qf9⟩, ⟨qz10, qc10, qf10⟩, ⟨qz11, qc11, qf11⟩, ⟨qz12, qc12, qf12⟩, ⟨qz13, qc13, qf13⟩, _⟩ := hSw.2; go_simp; (try with_reducible rfl)
  try simp only [Act.put, List.setIfInBounds_toArray, List.set_cons_zero, List.set_cons_succ]
  refine wpAnyH_ready (rs := [1, 7]) (by kernel_rfl) (by simp) ?_
  refine AllReadyH.cons (o := ⟨some 52, _, _, _, _, _⟩) rfl (fun K hK => ?_) ?_
  go_simp
  (first | ((with_reducible refine (PO.out _).mono ?_); rintro e w6 ⟨rfl, hb⟩) | ((with_reducible refine Calls.mono (ME.out _ _ ?_) ?_); (first | exact readsS_two (by simp) | exact (readsS_two (by simp)).below (below_alloc _ _)); rintro e w7 ⟨rfl, hb⟩))
  refine hK.out _ _ (hHeld0.next hb) (fun hHeld1 => ?_)
  clear hK K
  try clear hb
  try simp only [Act.put, List.setIfInBounds_toArray, List.set_cons_zero, List.set_cons_succ]
  refine wpAnyH_ready (rs := [2, 7]) (by kernel_rfl) (by simp) ?_
  refine AllReadyH.cons (o := ⟨some 53, _, _, _, _, _⟩) rfl (fun K hK => ?_) ?_
  go_simp
  refine hK.out _ _ (by first | exact hHeld1.alloc _ | exact (hHeld1.alloc _).drew) (fun hHeld2 => ?_)
  clear hK K
  try clear hb
  try simp only [Act.put, List.setIfInBounds_toArray, List.set_cons_zero, List.set_cons_succ]
  refine wpAnyH_ready (rs := [3, 7]) (by kernel_rfl) (by simp) ?_
  refine AllReadyH.cons (o := ⟨some 54, _, _, _, _, _⟩) rfl (fun K hK => ?_) ?_
  go_simp
  (first | ((with_reducible refine (PO.out _).mono ?_); rintro e w6 ⟨rfl, hb⟩) | ((with_reducible refine Calls.mono (ME.out _ _ ?_) ?_); (first | exact readsS_two (by simp) | exact (readsS_two (by simp)).below (below_alloc _ _)); rintro e w7 ⟨rfl, hb⟩))
  refine hK.out _ _ (hHeld2.next hb) (fun hHeld3 => ?_)
  clear hK K
  try clear hb
  try simp only [Act.put, List.setIfInBounds_toArray, List.set_cons_zero, List.set_cons_succ]
  refine wpAnyH_take (i := 4) (oi := ⟨some 50, _, _, _, _, _⟩) (v := ?_) rfl (by kernel_rfl) (by kernel_rfl) (by kernel_rfl) (fun _ _ _ h => h) (Or.inl ⟨by rfl, ?_⟩) (by assumption) ?_
  rotate_left
  · intro wq hSw; go_simp; (try with_reducible rfl)
  try simp only [Act.put, List.setIfInBounds_toArray, List.set_cons_zero, List.set_cons_succ]
  refine wpAnyH_take (i := 5) (oi := ⟨some 55, _, _, _, _, _⟩) (v := ?_) rfl (by kernel_rfl) (by kernel_rfl) (by kernel_rfl) (fun _ _ _ h => h) (Or.inl ⟨by rfl, ?_⟩) (by assumption) ?_
  rotate_left
  · intro wq hSw; go_simp; (try with_reducible rfl)
  try simp only [Act.put, List.setIfInBounds_toArray, List.set_cons_zero, List.set_cons_succ]
  refine wpAnyH_take (i := 6) (oi := ⟨some 56, _, _, _, _, _⟩) (v := ?_) rfl (by kernel_rfl) (by kernel_rfl) (by kernel_rfl) (fun _ _ _ h => h) (Or.inl ⟨by rfl, ?_⟩) (by assumption) ?_
  rotate_left
  · intro wq hSw; go_simp; (try with_reducible rfl)
  try simp only [Act.put, List.setIfInBounds_toArray, List.set_cons_zero, List.set_cons_succ]
  refine wpAnyH_ready (rs := [7]) (by kernel_rfl) (by simp) ?_
  refine AllReadyH.cons (o := ⟨some 13, _, _, _, _, _⟩) rfl (fun K hK => ?_) AllReadyH.nil
  go_simp
  refine hK.out _ _ (by first | exact hHeld3.alloc _ | exact (hHeld3.alloc _).drew) (fun hHeld4 => ?_)
  first | have hN4 := newK2 hHeld4 | have hN4 := newK2d hHeld4
  clear hK K
  try clear hb
  try simp only [Act.put, List.setIfInBounds_toArray, List.set_cons_zero, List.set_cons_succ]
  refine wpAnyH_ready (rs := [8]) (by kernel_rfl) (by simp) ?_
  refine AllReadyH.cons (o := ⟨none, _, _, _, _, _⟩) rfl (fun K hK => ?_) AllReadyH.nil
  have hz0 := hHeld3.1.size; obtain ⟨⟨az0, ac0, af0⟩, ⟨az1, ac1, af1⟩, ⟨az2, ac2, af2⟩, ⟨az3, ac3, af3⟩, ⟨az4, ac4, af4⟩, ⟨az5, ac5, af5⟩, ⟨az6, ac6, af6⟩, ⟨az7, ac7, af7⟩, ⟨az8, ac8, af8⟩, ⟨az9, ac9, af9⟩, ⟨az10, ac10, af10⟩, ⟨az11, ac11, af11⟩, ⟨az12, ac12, af12⟩, ⟨az13, ac13, af13⟩, _⟩ := hHeld3.2; (try simp at hz0); (try simp at az0); (try simp at az1); (try simp at az2); (try simp at az3); (try simp at az4); (try simp at az5); (try simp at az6); (try simp at az7); (try simp at az8); (try simp at az9); (try simp at az10); (try simp at az11); (try simp at az12); (try simp at az13)
  obtain ⟨⟨t0z0, t0c0, t0f0⟩, ⟨t0z1, t0c1, t0f1⟩, _⟩ := hN4.2; (try simp at t0z0); (try simp at t0c0); (try simp at t0f0); (try simp at t0z1); (try simp at t0c1); (try simp at t0f1)
  go_simp
  refine hK.out _ _ (by first | exact hHeld3.alloc _ | (repeat (first | (with_reducible exact hHeld4) | (refine Keeps.set ?_ (by simp <;> omega) (by simp <;> omega) _)))) (fun hHeld5 => ?_)
  clear hK K
  try clear hb
  try simp only [Act.put, List.setIfInBounds_toArray, List.set_cons_zero, List.set_cons_succ]
  refine wpAnyH_take (i := 9) (oi := ⟨some 14, _, _, _, _, _⟩) (v := ?_) rfl (by kernel_rfl) (by kernel_rfl) (by kernel_rfl) (fun _ _ _ h => h) (Or.inl ⟨by rfl, ?_⟩) (by assumption) ?_
  rotate_left
  · intro wq hSw; go_simp; (try with_reducible rfl)
  try simp only [Act.put, List.setIfInBounds_toArray, List.set_cons_zero, List.set_cons_succ]
  refine wpAnyH_done (by kernel_rfl) ?_ _
  have hHeld := hHeld5
  obtain ⟨⟨kz0, kc0, kf0⟩, ⟨kz1, kc1, kf1⟩, ⟨kz2, kc2, kf2⟩, ⟨kz3, kc3, kf3⟩, ⟨kz4, kc4, kf4⟩, ⟨kz5, kc5, kf5⟩, ⟨kz6, kc6, kf6⟩, ⟨kz7, kc7, kf7⟩, ⟨kz8, kc8, kf8⟩, ⟨kz9, kc9, kf9⟩, ⟨kz10, kc10, kf10⟩, ⟨kz11, kc11, kf11⟩, ⟨kz12, kc12, kf12⟩, ⟨kz13, kc13, kf13⟩, _⟩ := hHeld.2
  rotate_left 1
  refine AllReadyH.cons (o := ⟨some 13, _, _, _, _, _⟩) rfl (fun K hK => ?_) ?_
  go_simp
  refine hK.out _ _ (by first | exact hHeld2.alloc _ | exact (hHeld2.alloc _).drew) (fun hHeld6 => ?_)
  first | have hN6 := newK2 hHeld6 | have hN6 := newK2d hHeld6
  clear hK K
  try clear hb
  try simp only [Act.put, List.setIfInBounds_toArray, List.set_cons_zero, List.set_cons_succ]
  refine wpAnyH_ready (rs := [3]) (by kernel_rfl) (by simp) ?_
  refine AllReadyH.cons (o := ⟨some 54, _, _, _, _, _⟩) rfl (fun K hK => ?_) AllReadyH.nil
  go_simp
  (first | ((with_reducible refine (PO.out _).mono ?_); rintro e w6 ⟨rfl, hb⟩) | ((with_reducible refine Calls.mono (ME.out _ _ ?_) ?_); (first | exact readsS_two (by simp) | exact (readsS_two (by simp)).below (below_alloc _ _)); rintro e w7 ⟨rfl, hb⟩))
  refine hK.out _ _ (hHeld6.next hb) (fun hHeld7 => ?_)
  replace hN6 := hN6.next hb
  clear hK K
  try clear hb
  try simp only [Act.put, List.setIfInBounds_toArray, List.set_cons_zero, List.set_cons_succ]
  refine wpAnyH_take (i := 4) (oi := ⟨some 50, _, _, _, _, _⟩) (v := ?_) rfl (by kernel_rfl) (by kernel_rfl) (by kernel_rfl) (fun _ _ _ h => h) (Or.inl ⟨by rfl, ?_⟩) (by assumption) ?_
  rotate_left
  · intro wq hSw; go_simp; (try with_reducible rfl)
  try simp only [Act.put, List.setIfInBounds_toArray, List.set_cons_zero, List.set_cons_succ]
  refine wpAnyH_take (i := 5) (oi := ⟨some 55, _, _, _, _, _⟩) (v := ?_) rfl (by kernel_rfl) (by kernel_rfl) (by kernel_rfl) (fun _ _ _ h => h) (Or.inl ⟨by rfl, ?_⟩) (by assumption) ?_
  rotate_left
  · intro wq hSw; go_simp; (try with_reducible rfl)
  try simp only [Act.put, List.setIfInBounds_toArray, List.set_cons_zero, List.set_cons_succ]
  refine wpAnyH_take (i := 6) (oi := ⟨some 56, _, _, _, _, _⟩) (v := ?_) rfl (by kernel_rfl) (by kernel_rfl) (by kernel_rfl) (fun _ _ _ h => h) (Or.inl ⟨by rfl, ?_⟩) (by assumption) ?_
  rotate_left
  · intro wq hSw; go_simp; (try with_reducible rfl)
  try simp only [Act.put, List.setIfInBounds_toArray, List.set_cons_zero, List.set_cons_succ]
  refine wpAnyH_ready (rs := [8]) (by kernel_rfl) (by simp) ?_
  refine AllReadyH.cons (o := ⟨none, _, _, _, _, _⟩) rfl (fun K hK => ?_) AllReadyH.nil
  have hz0 := hHeld2.1.size; obtain ⟨⟨az0, ac0, af0⟩, ⟨az1, ac1, af1⟩, ⟨az2, ac2, af2⟩, ⟨az3, ac3, af3⟩, ⟨az4, ac4, af4⟩, ⟨az5, ac5, af5⟩, ⟨az6, ac6, af6⟩, ⟨az7, ac7, af7⟩, ⟨az8, ac8, af8⟩, ⟨az9, ac9, af9⟩, ⟨az10, ac10, af10⟩, ⟨az11, ac11, af11⟩, ⟨az12, ac12, af12⟩, ⟨az13, ac13, af13⟩, _⟩ := hHeld2.2; (try simp at hz0); (try simp at az0); (try simp at az1); (try simp at az2); (try simp at az3); (try simp at az4); (try simp at az5); (try simp at az6); (try simp at az7); (try simp at az8); (try simp at az9); (try simp at az10); (try simp at az11); (try simp at az12); (try simp at az13)
  obtain ⟨⟨t0z0, t0c0, t0f0⟩, ⟨t0z1, t0c1, t0f1⟩, _⟩ := hN6.2; (try simp at t0z0); (try simp at t0c0); (try simp at t0f0); (try simp at t0z1); (try simp at t0c1); (try simp at t0f1)
  go_simp
  refine hK.out _ _ (by first | exact hHeld2.alloc _ | (repeat (first | (with_reducible exact hHeld7) | (refine Keeps.set ?_ (by simp <;> omega) (by simp <;> omega) _)))) (fun hHeld8 => ?_)
  clear hK K
  try clear hb
  try simp only [Act.put, List.setIfInBounds_toArray, List.set_cons_zero, List.set_cons_succ]
  refine wpAnyH_take (i := 9) (oi := ⟨some 14, _, _, _, _, _⟩) (v := ?_) rfl (by kernel_rfl) (by kernel_rfl) (by kernel_rfl) (fun _ _ _ h => h) (Or.inl ⟨by rfl, ?_⟩) (by assumption) ?_
  rotate_left
  · intro wq hSw; go_simp; (try with_reducible rfl)
  try simp only [Act.put, List.setIfInBounds_toArray, List.set_cons_zero, List.set_cons_succ]
  refine wpAnyH_done (by kernel_rfl) ?_ _
  have hHeld := hHeld8
  obtain ⟨⟨kz0, kc0, kf0⟩, ⟨kz1, kc1, kf1⟩, ⟨kz2, kc2, kf2⟩, ⟨kz3, kc3, kf3⟩, ⟨kz4, kc4, kf4⟩, ⟨kz5, kc5, kf5⟩, ⟨kz6, kc6, kf6⟩, ⟨kz7, kc7, kf7⟩, ⟨kz8, kc8, kf8⟩, ⟨kz9, kc9, kf9⟩, ⟨kz10, kc10, kf10⟩, ⟨kz11, kc11, kf11⟩, ⟨kz12, kc12, kf12⟩, ⟨kz13, kc13, kf13⟩, _⟩ := hHeld.2
  rotate_left 1
  exact AllReadyH.nil
  refine AllReadyH.cons (o := ⟨some 13, _, _, _, _, _⟩) rfl (fun K hK => ?_) ?_
  go_simp
  refine hK.out _ _ (by first | exact hHeld1.alloc _ | exact (hHeld1.alloc _).drew) (fun hHeld9 => ?_)
  first | have hN9 := newK2 hHeld9 | have hN9 := newK2d hHeld9
  clear hK K
  try clear hb
  try simp only [Act.put, List.setIfInBounds_toArray, List.set_cons_zero, List.set_cons_succ]
  refine wpAnyH_ready (rs := [2]) (by kernel_rfl) (by simp) ?_
  refine AllReadyH.cons (o := ⟨some 53, _, _, _, _, _⟩) rfl (fun K hK => ?_) AllReadyH.nil
  go_simp
  refine hK.out _ _ (by first | exact hHeld9.alloc _ | exact (hHeld9.alloc _).drew) (fun hHeld10 => ?_)
  first | replace hN9 := hN9.allocAs hHeld10 | replace hN9 := hN9.allocAsD hHeld10
  clear hK K
  try clear hb
  try simp only [Act.put, List.setIfInBounds_toArray, List.set_cons_zero, List.set_cons_succ]
  refine wpAnyH_ready (rs := [3]) (by kernel_rfl) (by simp) ?_
  refine AllReadyH.cons (o := ⟨some 54, _, _, _, _, _⟩) rfl (fun K hK => ?_) AllReadyH.nil
  go_simp
  (first | ((with_reducible refine (PO.out _).mono ?_); rintro e w6 ⟨rfl, hb⟩) | ((with_reducible refine Calls.mono (ME.out _ _ ?_) ?_); (first | exact readsS_two (by simp) | exact (readsS_two (by simp)).below (below_alloc _ _)); rintro e w7 ⟨rfl, hb⟩))
  refine hK.out _ _ (hHeld10.next hb) (fun hHeld11 => ?_)
  replace hN9 := hN9.next hb
  clear hK K
  try clear hb
  try simp only [Act.put, List.setIfInBounds_toArray, List.set_cons_zero, List.set_cons_succ]
  refine wpAnyH_take (i := 4) (oi := ⟨some 50, _, _, _, _, _⟩) (v := ?_) rfl (by kernel_rfl) (by kernel_rfl) (by kernel_rfl) (fun _ _ _ h => h) (Or.inl ⟨by rfl, ?_⟩) (by assumption) ?_
  rotate_left
  · intro wq hSw; go_simp; (try with_reducible rfl)
  try simp only [Act.put, List.setIfInBounds_toArray, List.set_cons_zero, List.set_cons_succ]
  refine wpAnyH_take (i := 5) (oi := ⟨some 55, _, _, _, _, _⟩) (v := ?_) rfl (by kernel_rfl) (by kernel_rfl) (by kernel_rfl) (fun _ _ _ h => h) (Or.inl ⟨by rfl, ?_⟩) (by assumption) ?_
  rotate_left
  · intro wq hSw; go_simp; (try with_reducible rfl)
  try simp only [Act.put, List.setIfInBounds_toArray, List.set_cons_zero, List.set_cons_succ]
  refine wpAnyH_take (i := 6) (oi := ⟨some 56, _, _, _, _, _⟩) (v := ?_) rfl (by kernel_rfl) (by kernel_rfl) (by kernel_rfl) (fun _ _ _ h => h) (Or.inl ⟨by rfl, ?_⟩) (by assumption) ?_
  rotate_left
  · intro wq hSw; go_simp; (try with_reducible rfl)
  try simp only [Act.put, List.setIfInBounds_toArray, List.set_cons_zero, List.set_cons_succ]
  refine wpAnyH_ready (rs := [8]) (by kernel_rfl) (by simp) ?_
  refine AllReadyH.cons (o := ⟨none, _, _, _, _, _⟩) rfl (fun K hK => ?_) AllReadyH.nil
  have hz0 := hHeld1.1.size; obtain ⟨⟨az0, ac0, af0⟩, ⟨az1, ac1, af1⟩, ⟨az2, ac2, af2⟩, ⟨az3, ac3, af3⟩, ⟨az4, ac4, af4⟩, ⟨az5, ac5, af5⟩, ⟨az6, ac6, af6⟩, ⟨az7, ac7, af7⟩, ⟨az8, ac8, af8⟩, ⟨az9, ac9, af9⟩, ⟨az10, ac10, af10⟩, ⟨az11, ac11, af11⟩, ⟨az12, ac12, af12⟩, ⟨az13, ac13, af13⟩, _⟩ := hHeld1.2; (try simp at hz0); (try simp at az0); (try simp at az1); (try simp at az2); (try simp at az3); (try simp at az4); (try simp at az5); (try simp at az6); (try simp at az7); (try simp at az8); (try simp at az9); (try simp at az10); (try simp at az11); (try simp at az12); (try simp at az13)
  obtain ⟨⟨t0z0, t0c0, t0f0⟩, ⟨t0z1, t0c1, t0f1⟩, _⟩ := hN9.2; (try simp at t0z0); (try simp at t0c0); (try simp at t0f0); (try simp at t0z1); (try simp at t0c1); (try simp at t0f1)
  go_simp
  refine hK.out _ _ (by first | exact hHeld1.alloc _ | (repeat (first | (with_reducible exact hHeld11) | (refine Keeps.set ?_ (by simp <;> omega) (by simp <;> omega) _)))) (fun hHeld12 => ?_)
  clear hK K
  try clear hb
  try simp only [Act.put, List.setIfInBounds_toArray, List.set_cons_zero, List.set_cons_succ]
  refine wpAnyH_take (i := 9) (oi := ⟨some 14, _, _, _, _, _⟩) (v := ?_) rfl (by kernel_rfl) (by kernel_rfl) (by kernel_rfl) (fun _ _ _ h => h) (Or.inl ⟨by rfl, ?_⟩) (by assumption) ?_
  rotate_left
  · intro wq hSw; go_simp; (try with_reducible rfl)
  try simp only [Act.put, List.setIfInBounds_toArray, List.set_cons_zero, List.set_cons_succ]
  refine wpAnyH_done (by kernel_rfl) ?_ _
  have hHeld := hHeld12
  obtain ⟨⟨kz0, kc0, kf0⟩, ⟨kz1, kc1, kf1⟩, ⟨kz2, kc2, kf2⟩, ⟨kz3, kc3, kf3⟩, ⟨kz4, kc4, kf4⟩, ⟨kz5, kc5, kf5⟩, ⟨kz6, kc6, kf6⟩, ⟨kz7, kc7, kf7⟩, ⟨kz8, kc8, kf8⟩, ⟨kz9, kc9, kf9⟩, ⟨kz10, kc10, kf10⟩, ⟨kz11, kc11, kf11⟩, ⟨kz12, kc12, kf12⟩, ⟨kz13, kc13, kf13⟩, _⟩ := hHeld.2
  rotate_left 1
  exact AllReadyH.nil
  refine AllReadyH.cons (o := ⟨some 13, _, _, _, _, _⟩) rfl (fun K hK => ?_) ?_
  go_simp
  refine hK.out _ _ (by first | exact hHeld0.alloc _ | exact (hHeld0.alloc _).drew) (fun hHeld13 => ?_)
  first | have hN13 := newK2 hHeld13 | have hN13 := newK2d hHeld13
  clear hK K
  try clear hb
  try simp only [Act.put, List.setIfInBounds_toArray, List.set_cons_zero, List.set_cons_succ]
  refine wpAnyH_ready (rs := [1]) (by kernel_rfl) (by simp) ?_
  refine AllReadyH.cons (o := ⟨some 52, _, _, _, _, _⟩) rfl (fun K hK => ?_) AllReadyH.nil
  go_simp
  (first | ((with_reducible refine (PO.out _).mono ?_); rintro e w6 ⟨rfl, hb⟩) | ((with_reducible refine Calls.mono (ME.out _ _ ?_) ?_); (first | exact readsS_two (by simp) | exact (readsS_two (by simp)).below (below_alloc _ _)); rintro e w7 ⟨rfl, hb⟩))
  refine hK.out _ _ (hHeld13.next hb) (fun hHeld14 => ?_)
  replace hN13 := hN13.next hb
  clear hK K
  try clear hb
  try simp only [Act.put, List.setIfInBounds_toArray, List.set_cons_zero, List.set_cons_succ]
  refine wpAnyH_ready (rs := [2]) (by kernel_rfl) (by simp) ?_
  refine AllReadyH.cons (o := ⟨some 53, _, _, _, _, _⟩) rfl (fun K hK => ?_) AllReadyH.nil
  go_simp
  refine hK.out _ _ (by first | exact hHeld14.alloc _ | exact (hHeld14.alloc _).drew) (fun hHeld15 => ?_)
  first | replace hN13 := hN13.allocAs hHeld15 | replace hN13 := hN13.allocAsD hHeld15
  clear hK K
  try clear hb
  try simp only [Act.put, List.setIfInBounds_toArray, List.set_cons_zero, List.set_cons_succ]
  refine wpAnyH_ready (rs := [3]) (by kernel_rfl) (by simp) ?_
  refine AllReadyH.cons (o := ⟨some 54, _, _, _, _, _⟩) rfl (fun K hK => ?_) AllReadyH.nil
  go_simp
  (first | ((with_reducible refine (PO.out _).mono ?_); rintro e w6 ⟨rfl, hb⟩) | ((with_reducible refine Calls.mono (ME.out _ _ ?_) ?_); (first | exact readsS_two (by simp) | exact (readsS_two (by simp)).below (below_alloc _ _)); rintro e w7 ⟨rfl, hb⟩))
  refine hK.out _ _ (hHeld15.next hb) (fun hHeld16 => ?_)
  replace hN13 := hN13.next hb
  clear hK K
  try clear hb
  try simp only [Act.put, List.setIfInBounds_toArray, List.set_cons_zero, List.set_cons_succ]
  refine wpAnyH_take (i := 4) (oi := ⟨some 50, _, _, _, _, _⟩) (v := ?_) rfl (by kernel_rfl) (by kernel_rfl) (by kernel_rfl) (fun _ _ _ h => h) (Or.inl ⟨by rfl, ?_⟩) (by assumption) ?_
  rotate_left
  · intro wq hSw; go_simp; (try with_reducible rfl)
  try simp only [Act.put, List.setIfInBounds_toArray, List.set_cons_zero, List.set_cons_succ]
  refine wpAnyH_take (i := 5) (oi := ⟨some 55, _, _, _, _, _⟩) (v := ?_) rfl (by kernel_rfl) (by kernel_rfl) (by kernel_rfl) (fun _ _ _ h => h) (Or.inl ⟨by rfl, ?_⟩) (by assumption) ?_
  rotate_left
  · intro wq hSw; go_simp; (try with_reducible rfl)
  try simp only [Act.put, List.setIfInBounds_toArray, List.set_cons_zero, List.set_cons_succ]
  refine wpAnyH_take (i := 6) (oi := ⟨some 56, _, _, _, _, _⟩) (v := ?_) rfl (by kernel_rfl) (by kernel_rfl) (by kernel_rfl) (fun _ _ _ h => h) (Or.inl ⟨by rfl, ?_⟩) (by assumption) ?_
  rotate_left
  · intro wq hSw; go_simp; (try with_reducible rfl)
  try simp only [Act.put, List.setIfInBounds_toArray, List.set_cons_zero, List.set_cons_succ]
  refine wpAnyH_ready (rs := [8]) (by kernel_rfl) (by simp) ?_
  refine AllReadyH.cons (o := ⟨none, _, _, _, _, _⟩) rfl (fun K hK => ?_) AllReadyH.nil
  have hz0 := hHeld0.1.size; obtain ⟨⟨az0, ac0, af0⟩, ⟨az1, ac1, af1⟩, ⟨az2, ac2, af2⟩, ⟨az3, ac3, af3⟩, ⟨az4, ac4, af4⟩, ⟨az5, ac5, af5⟩, ⟨az6, ac6, af6⟩, ⟨az7, ac7, af7⟩, ⟨az8, ac8, af8⟩, ⟨az9, ac9, af9⟩, ⟨az10, ac10, af10⟩, ⟨az11, ac11, af11⟩, ⟨az12, ac12, af12⟩, ⟨az13, ac13, af13⟩, _⟩ := hHeld0.2; (try simp at hz0); (try simp at az0); (try simp at az1); (try simp at az2); (try simp at az3); (try simp at az4); (try simp at az5); (try simp at az6); (try simp at az7); (try simp at az8); (try simp at az9); (try simp at az10); (try simp at az11); (try simp at az12); (try simp at az13)
  obtain ⟨⟨t0z0, t0c0, t0f0⟩, ⟨t0z1, t0c1, t0f1⟩, _⟩ := hN13.2; (try simp at t0z0); (try simp at t0c0); (try simp at t0f0); (try simp at t0z1); (try simp at t0c1); (try simp at t0f1)
  go_simp
  refine hK.out _ _ (by first | exact hHeld0.alloc _ | (repeat (first | (with_reducible exact hHeld16) | (refine Keeps.set ?_ (by simp <;> omega) (by simp <;> omega) _)))) (fun hHeld17 => ?_)
  clear hK K
  try clear hb
  try simp only [Act.put, List.setIfInBounds_toArray, List.set_cons_zero, List.set_cons_succ]
  refine wpAnyH_take (i := 9) (oi := ⟨some 14, _, _, _, _, _⟩) (v := ?_) rfl (by kernel_rfl) (by kernel_rfl) (by kernel_rfl) (fun _ _ _ h => h) (Or.inl ⟨by rfl, ?_⟩) (by assumption) ?_
  rotate_left
  · intro wq hSw; go_simp; (try with_reducible rfl)
  try simp only [Act.put, List.setIfInBounds_toArray, List.set_cons_zero, List.set_cons_succ]
  refine wpAnyH_done (by kernel_rfl) ?_ _
  have hHeld := hHeld17
  obtain ⟨⟨kz0, kc0, kf0⟩, ⟨kz1, kc1, kf1⟩, ⟨kz2, kc2, kf2⟩, ⟨kz3, kc3, kf3⟩, ⟨kz4, kc4, kf4⟩, ⟨kz5, kc5, kf5⟩, ⟨kz6, kc6, kf6⟩, ⟨kz7, kc7, kf7⟩, ⟨kz8, kc8, kf8⟩, ⟨kz9, kc9, kf9⟩, ⟨kz10, kc10, kf10⟩, ⟨kz11, kc11, kf11⟩, ⟨kz12, kc12, kf12⟩, ⟨kz13, kc13, kf13⟩, _⟩ := hHeld.2
  rotate_left 1
  exact AllReadyH.nil
  all_goals
    go_wp2_with fail
    refine (WI.out _).mono ?_
    rintro e w8 ⟨rfl, hb⟩
    replace hHeld := hHeld.next hb
    clear hb kz0 kc0 kf0 kz1 kc1 kf1 kz2 kc2 kf2 kz3 kc3 kf3 kz4 kc4 kf4 kz5 kc5 kf5 kz6 kc6 kf6 kz7 kc7 kf7 kz8 kc8 kf8 kz9 kc9 kf9 kz10 kc10 kf10 kz11 kc11 kf11 kz12 kc12 kf12 kz13 kc13 kf13
    obtain ⟨⟨kz0, kc0, kf0⟩, ⟨kz1, kc1, kf1⟩, ⟨kz2, kc2, kf2⟩, ⟨kz3, kc3, kf3⟩, ⟨kz4, kc4, kf4⟩, ⟨kz5, kc5, kf5⟩, ⟨kz6, kc6, kf6⟩, ⟨kz7, kc7, kf7⟩, ⟨kz8, kc8, kf8⟩, ⟨kz9, kc9, kf9⟩, ⟨kz10, kc10, kf10⟩, ⟨kz11, kc11, kf11⟩, ⟨kz12, kc12, kf12⟩, ⟨kz13, kc13, kf13⟩, _⟩ := hHeld.2
    go_wp2_with fail
    refine (HA.out _).mono ?_
    rintro e w9 ⟨rfl, hb⟩
    replace hHeld := hHeld.next hb
    clear hb kz0 kc0 kf0 kz1 kc1 kf1 kz2 kc2 kf2 kz3 kc3 kf3 kz4 kc4 kf4 kz5 kc5 kf5 kz6 kc6 kf6 kz7 kc7 kf7 kz8 kc8 kf8 kz9 kc9 kf9 kz10 kc10 kf10 kz11 kc11 kf11 kz12 kc12 kf12 kz13 kc13 kf13
    obtain ⟨⟨kz0, kc0, kf0⟩, ⟨kz1, kc1, kf1⟩, ⟨kz2, kc2, kf2⟩, ⟨kz3, kc3, kf3⟩, ⟨kz4, kc4, kf4⟩, ⟨kz5, kc5, kf5⟩, ⟨kz6, kc6, kf6⟩, ⟨kz7, kc7, kf7⟩, ⟨kz8, kc8, kf8⟩, ⟨kz9, kc9, kf9⟩, ⟨kz10, kc10, kf10⟩, ⟨kz11, kc11, kf11⟩, ⟨kz12, kc12, kf12⟩, ⟨kz13, kc13, kf13⟩, _⟩ := hHeld.2
    go_wp2_with fail
    refine (CH.out _).mono ?_
    rintro e w10 ⟨rfl, hb⟩
    replace hHeld := hHeld.next hb
    clear hb
    go_wp2_with fail
    go_ret
    exact ⟨rfl, hHeld.1⟩
end Go.Proofs.Ytmnndbafljngiaa
