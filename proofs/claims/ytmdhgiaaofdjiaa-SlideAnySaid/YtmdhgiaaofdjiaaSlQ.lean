/-
  Layer 10: the law's rays: is one flatter than a slope? Conditions: those written at each fact.
-/
import Derived.Test.YtmdhgiaaofdjiaaSlP
namespace Go.Proofs.Ytmdhgiaaofdjiaa.P10
open Go.RowKit Go.Shelf Go.Proofs.Ytmdhgiaaofdjiaa.P8

set_option maxRecDepth 100000 in
set_option maxHeartbeats 4000000 in
theorem flatter_any (a r n d m e : Int) (hn : I64 n) (hd : I64 d) (hm : I64 m) (he : I64 e) (w : World) :
    Calls Try.prog 14 #[lnV a r n d, slV m e] w (Ret w (.bool (flatB n d m e))) := by
  have M1 := Lib.hid (fun W => mul_any n e hn he W)
  have M2 := Lib.hid (fun W => mul_any m d hm hd W)
  have CM := Lib.hid (fun W => compare_fits (n * e) (m * d) (mul_fits hn he) (mul_fits hm hd) W)
  have CL := cmpI_neg (n * e) (m * d)
  have CH := cmpI_pos (n * e) (m * d)
  have FB : Hid (flatB n d m e = ((decide (0 < m) && decide (n * e < m * d)) || (decide (m < 0) && decide (m * d < n * e)))) := Lib.hid rfl
  generalize flatB n d m e = R at *
  clear hn hd hm he
  rw [← CL, ← CH] at FB
  clear CL CH
  have FB2 := FB
  clear FB
  generalize cmpI (n * e) (m * d) = ch at *
  generalize rhi (n * e) = x0 at *
  generalize rlo (n * e) = x1 at *
  generalize rhi (m * d) = y0 at *
  generalize rlo (m * d) = y1 at *
  go_enter Try.func14, Try.ntmps14
  have hH0 : Hid (Keeps w [(w.heap.size, 0, .int .i64 a), (w.heap.size, 1, .int .i64 r), (w.heap.size, 2, .int .i64 n), (w.heap.size, 3, .int .i64 d), (w.heap.size + 1, 0, .int .i64 m), (w.heap.size + 1, 1, .int .i64 e)] ((w.alloc (.cells #[.int .i64 a, .int .i64 r, .int .i64 n, .int .i64 d] 24)).alloc (.cells #[.int .i64 m, .int .i64 e] 34))) :=
    Lib.hid ⟨((Below.refl _ w).alloc (Nat.le_refl _) _).alloc (by simp) _, by simp [Cells, go_sem]⟩
  go_upto_region 1 with (fail)
  have hHs : Keeps w [(w.heap.size, 0, .int .i64 a), (w.heap.size, 1, .int .i64 r), (w.heap.size, 2, .int .i64 n), (w.heap.size, 3, .int .i64 d), (w.heap.size + 1, 0, .int .i64 m), (w.heap.size + 1, 1, .int .i64 e)] ((w.alloc (.cells #[.int .i64 a, .int .i64 r, .int .i64 n, .int .i64 d] 24)).alloc (.cells #[.int .i64 m, .int .i64 e] 34)) := hH0.out
  generalize (w.alloc (.cells #[.int .i64 a, .int .i64 r, .int .i64 n, .int .i64 d] 24)).alloc (.cells #[.int .i64 m, .int .i64 e] 34) = wi at hHs ⊢
  clear hH0
  go_cut [5, 6] (fun s5 s6 wx => ∃ g g' : Nat, s5 = .pointer (some ⟨g, 0, none⟩) ∧ s6 = .pointer (some ⟨g', 0, none⟩) ∧ Keeps w [(g, 0, .int .i64 x0), (g, 1, .int .u64 x1), (g', 0, .int .i64 y0), (g', 1, .int .u64 y1), (w.heap.size + 1, 0, .int .i64 m), (w.heap.size + 1, 1, .int .i64 e)] wx)
  case first =>
    refine region_keeps (w0 := w) (L := [(w.heap.size, 0, .int .i64 a), (w.heap.size, 1, .int .i64 r), (w.heap.size, 2, .int .i64 n), (w.heap.size, 3, .int .i64 d), (w.heap.size + 1, 0, .int .i64 m), (w.heap.size + 1, 1, .int .i64 e)]) (by kernel_rfl) hHs (fun hHeld0 => ?_)
    refine wpAnyH_take (i := 0) (oi := ⟨some 7, _, _, _, _, _⟩) (v := ?_) rfl (by kernel_rfl) (by kernel_rfl) (by kernel_rfl) (fun _ _ _ h => h) (Or.inl ⟨by rfl, ?_⟩) (by assumption) ?_
    rotate_left
    · intro wq hSw; go_simp; (try with_reducible rfl)
    try simp only [Act.put, List.setIfInBounds_toArray, List.set_cons_zero, List.set_cons_succ]
    refine wpAnyH_take (i := 1) (oi := ⟨some 8, _, _, _, _, _⟩) (v := ?_) rfl (by kernel_rfl) (by kernel_rfl) (by kernel_rfl) (fun _ _ _ h => h) (Or.inl ⟨by rfl, ?_⟩) (by assumption) ?_
    rotate_left
    · intro wq hSw; obtain ⟨⟨qz0, qc0, qf0⟩, ⟨qz1, qc1, qf1⟩, ⟨qz2, qc2, qf2⟩, ⟨qz3, qc3, qf3⟩, ⟨qz4, qc4, qf4⟩, ⟨qz5, qc5, qf5⟩, _⟩ := hSw.2; go_simp; (try with_reducible rfl)
    try simp only [Act.put, List.setIfInBounds_toArray, List.set_cons_zero, List.set_cons_succ]
    refine wpAnyH_take (i := 2) (oi := ⟨some 9, _, _, _, _, _⟩) (v := ?_) rfl (by kernel_rfl) (by kernel_rfl) (by kernel_rfl) (fun _ _ _ h => h) (Or.inl ⟨by rfl, ?_⟩) (by assumption) ?_
    rotate_left
    · intro wq hSw; go_simp; (try with_reducible rfl)
    try simp only [Act.put, List.setIfInBounds_toArray, List.set_cons_zero, List.set_cons_succ]
    refine wpAnyH_take (i := 3) (oi := ⟨some 10, _, _, _, _, _⟩) (v := ?_) rfl (by kernel_rfl) (by kernel_rfl) (by kernel_rfl) (fun _ _ _ h => h) (Or.inl ⟨by rfl, ?_⟩) (by assumption) ?_
    rotate_left
    · intro wq hSw; obtain ⟨⟨qz0, qc0, qf0⟩, ⟨qz1, qc1, qf1⟩, ⟨qz2, qc2, qf2⟩, ⟨qz3, qc3, qf3⟩, ⟨qz4, qc4, qf4⟩, ⟨qz5, qc5, qf5⟩, _⟩ := hSw.2; go_simp; (try with_reducible rfl)
    try simp only [Act.put, List.setIfInBounds_toArray, List.set_cons_zero, List.set_cons_succ]
    refine wpAnyH_take (i := 5) (oi := ⟨some 12, _, _, _, _, _⟩) (v := ?_) rfl (by kernel_rfl) (by kernel_rfl) (by kernel_rfl) (fun _ _ _ h => h) (Or.inl ⟨by rfl, ?_⟩) (by assumption) ?_
    rotate_left
    · intro wq hSw; go_simp; (try with_reducible rfl)
    try simp only [Act.put, List.setIfInBounds_toArray, List.set_cons_zero, List.set_cons_succ]
    refine wpAnyH_take (i := 6) (oi := ⟨some 13, _, _, _, _, _⟩) (v := ?_) rfl (by kernel_rfl) (by kernel_rfl) (by kernel_rfl) (fun _ _ _ h => h) (Or.inl ⟨by rfl, ?_⟩) (by assumption) ?_
    rotate_left
    · intro wq hSw; obtain ⟨⟨qz0, qc0, qf0⟩, ⟨qz1, qc1, qf1⟩, ⟨qz2, qc2, qf2⟩, ⟨qz3, qc3, qf3⟩, ⟨qz4, qc4, qf4⟩, ⟨qz5, qc5, qf5⟩, _⟩ := hSw.2; go_simp; (try with_reducible rfl)
    try simp only [Act.put, List.setIfInBounds_toArray, List.set_cons_zero, List.set_cons_succ]
    refine wpAnyH_take (i := 7) (oi := ⟨some 14, _, _, _, _, _⟩) (v := ?_) rfl (by kernel_rfl) (by kernel_rfl) (by kernel_rfl) (fun _ _ _ h => h) (Or.inl ⟨by rfl, ?_⟩) (by assumption) ?_
    rotate_left
    · intro wq hSw; go_simp; (try with_reducible rfl)
    try simp only [Act.put, List.setIfInBounds_toArray, List.set_cons_zero, List.set_cons_succ]
    refine wpAnyH_take (i := 8) (oi := ⟨some 15, _, _, _, _, _⟩) (v := ?_) rfl (by kernel_rfl) (by kernel_rfl) (by kernel_rfl) (fun _ _ _ h => h) (Or.inl ⟨by rfl, ?_⟩) (by assumption) ?_
    rotate_left
    · intro wq hSw; obtain ⟨⟨qz0, qc0, qf0⟩, ⟨qz1, qc1, qf1⟩, ⟨qz2, qc2, qf2⟩, ⟨qz3, qc3, qf3⟩, ⟨qz4, qc4, qf4⟩, ⟨qz5, qc5, qf5⟩, _⟩ := hSw.2; go_simp; (try with_reducible rfl)
    try simp only [Act.put, List.setIfInBounds_toArray, List.set_cons_zero, List.set_cons_succ]
    refine wpAnyH_ready (rs := [4, 10, 11]) (by kernel_rfl) (by simp) ?_
    refine AllReadyH.cons (o := ⟨some 11, _, _, _, _, _⟩) rfl (fun K hK => ?_) ?_
    go_simp
    (first | ((with_reducible refine (M1.out _).mono ?_); rintro en wa ⟨rfl, hb⟩) | ((with_reducible refine (M2.out _).mono ?_); rintro en wb ⟨rfl, hb⟩))
    refine hK.out _ _ (hHeld0.next hb) (fun hHeld1 => ?_)
    clear hK K
    try clear hb
    try simp only [Act.put, List.setIfInBounds_toArray, List.set_cons_zero, List.set_cons_succ]
    refine wpAnyH_ready (rs := [9, 10, 11]) (by kernel_rfl) (by simp) ?_
    refine AllReadyH.cons (o := ⟨some 16, _, _, _, _, _⟩) rfl (fun K hK => ?_) ?_
    go_simp
    (first | ((with_reducible refine (M1.out _).mono ?_); rintro en wa ⟨rfl, hb⟩) | ((with_reducible refine (M2.out _).mono ?_); rintro en wb ⟨rfl, hb⟩))
    refine hK.out _ _ (hHeld1.next hb) (fun hHeld2 => ?_)
    clear hK K
    try clear hb
    try simp only [Act.put, List.setIfInBounds_toArray, List.set_cons_zero, List.set_cons_succ]
    refine wpAnyH_ready (rs := [10, 11]) (by kernel_rfl) (by simp) ?_
    refine AllReadyH.cons (o := ⟨some 5, _, _, _, _, _⟩) rfl (fun K hK => ?_) ?_
    have lo5 := hHeld2.1.size
    obtain ⟨⟨a5_z0, a5_c0, a5_f0⟩, ⟨a5_z1, a5_c1, a5_f1⟩, ⟨a5_z2, a5_c2, a5_f2⟩, ⟨a5_z3, a5_c3, a5_f3⟩, ⟨a5_z4, a5_c4, a5_f4⟩, ⟨a5_z5, a5_c5, a5_f5⟩, _⟩ := hHeld2.2
    (try simp at lo5); (try simp at a5_z0); (try simp at a5_z1); (try simp at a5_z2); (try simp at a5_z3); (try simp at a5_z4); (try simp at a5_z5)
    go_simp
    refine hK.out _ _ (by first | exact hHeld2.alloc _ | exact (hHeld2.alloc _).drew) (fun hHeld3 => ?_)
    first | have hS5 := newK2 hHeld3 | have hS5 := newK2d hHeld3
    clear hK K
    try clear hb
    try simp only [Act.put, List.setIfInBounds_toArray, List.set_cons_zero, List.set_cons_succ]
    generalize hGWA1 : World.alloc wb (.cells #[.int .i64 0, .int .u64 0] 41) = WA1 at *
    clear hGWA1
    refine wpAnyH_ready (rs := [11]) (by kernel_rfl) (by simp) ?_
    refine AllReadyH.cons (o := ⟨some 6, _, _, _, _, _⟩) rfl (fun K hK => ?_) AllReadyH.nil
    have hne5_6 := hS5.2.1.1
    have lo6 := hHeld3.1.size
    obtain ⟨⟨a6_z0, a6_c0, a6_f0⟩, ⟨a6_z1, a6_c1, a6_f1⟩, ⟨a6_z2, a6_c2, a6_f2⟩, ⟨a6_z3, a6_c3, a6_f3⟩, ⟨a6_z4, a6_c4, a6_f4⟩, ⟨a6_z5, a6_c5, a6_f5⟩, _⟩ := hHeld3.2
    (try simp at lo6); (try simp at hne5_6); (try simp at a6_z0); (try simp at a6_z1); (try simp at a6_z2); (try simp at a6_z3); (try simp at a6_z4); (try simp at a6_z5)
    go_simp
    refine hK.out _ _ (by first | exact hHeld3.alloc _ | exact (hHeld3.alloc _).drew) (fun hHeld4 => ?_)
    first | replace hS5 := hS5.alloc2e hHeld4 | replace hS5 := hS5.alloc2 hHeld4
    first | have hS6 := newK2 hHeld4 | have hS6 := newK2d hHeld4
    clear hK K
    try clear hb
    try simp only [Act.put, List.setIfInBounds_toArray, List.set_cons_zero, List.set_cons_succ]
    generalize hGWA2 : World.alloc WA1 (.cells #[.int .i64 0, .int .u64 0] 41) = WA2 at *
    clear hGWA2
    refine wpAnyH_ready (rs := [12]) (by kernel_rfl) (by simp) ?_
    refine AllReadyH.cons (o := ⟨none, _, _, _, _, _⟩) rfl (fun K hK => ?_) AllReadyH.nil
    obtain ⟨⟨s5z0, s5c0, s5f0⟩, ⟨s5z1, s5c1, s5f1⟩, _⟩ := hS5.2
    go_simp
    refine hK.out _ _ (by (repeat (first | (with_reducible exact hHeld4) | (refine Keeps.set ?_ (by simp <;> omega) (by simp <;> omega) _)))) (fun hHeld5 => ?_)
    replace hS6 := hS6.mv2 hHeld5 (by first | omega | (simp <;> omega)) (by simp <;> omega)
    replace hS5 := hHeld5.add2 s5z0 s5c0 s5f0 s5c1 s5f1
    clear s5z0 s5c0 s5f0 s5z1 s5c1 s5f1
    clear hK K
    try clear hb
    try simp only [Act.put, List.setIfInBounds_toArray, List.set_cons_zero, List.set_cons_succ]
    generalize hGWA3 : World.setCell (World.setCell WA2 ⟨wb.heap.size, 0, none⟩ (.int .i64 x0)) ⟨wb.heap.size, 1, none⟩ (.int .u64 x1) = WA3 at *
    clear hGWA3
    refine wpAnyH_ready (rs := [13]) (by kernel_rfl) (by simp) ?_
    refine AllReadyH.cons (o := ⟨none, _, _, _, _, _⟩) rfl (fun K hK => ?_) AllReadyH.nil
    obtain ⟨⟨s6z0, s6c0, s6f0⟩, ⟨s6z1, s6c1, s6f1⟩, _⟩ := hS6.2
    go_simp
    refine hK.out _ _ (by (repeat (first | (with_reducible exact hHeld5) | (refine Keeps.set ?_ (by simp <;> omega) (by simp <;> omega) _)))) (fun hHeld6 => ?_)
    replace hS5 := hS5.mv2 hHeld6 (by first | omega | (simp <;> omega)) (by simp <;> omega)
    replace hS6 := hHeld6.add2 s6z0 s6c0 s6f0 s6c1 s6f1
    clear s6z0 s6c0 s6f0 s6z1 s6c1 s6f1
    clear hK K
    try clear hb
    try simp only [Act.put, List.setIfInBounds_toArray, List.set_cons_zero, List.set_cons_succ]
    generalize hGWA4 : World.setCell (World.setCell WA3 ⟨WA1.heap.size, 0, none⟩ (.int .i64 y0)) ⟨WA1.heap.size, 1, none⟩ (.int .u64 y1) = WA4 at *
    clear hGWA4
    refine wpAnyH_done (by kernel_rfl) ?_ _
    have hHeld := hHeld6
    rotate_left 1
    refine AllReadyH.cons (o := ⟨some 6, _, _, _, _, _⟩) rfl (fun K hK => ?_) ?_
    have lo6 := hHeld2.1.size
    obtain ⟨⟨a6_z0, a6_c0, a6_f0⟩, ⟨a6_z1, a6_c1, a6_f1⟩, ⟨a6_z2, a6_c2, a6_f2⟩, ⟨a6_z3, a6_c3, a6_f3⟩, ⟨a6_z4, a6_c4, a6_f4⟩, ⟨a6_z5, a6_c5, a6_f5⟩, _⟩ := hHeld2.2
    (try simp at lo6); (try simp at a6_z0); (try simp at a6_z1); (try simp at a6_z2); (try simp at a6_z3); (try simp at a6_z4); (try simp at a6_z5)
    go_simp
    refine hK.out _ _ (by first | exact hHeld2.alloc _ | exact (hHeld2.alloc _).drew) (fun hHeld7 => ?_)
    first | have hS6 := newK2 hHeld7 | have hS6 := newK2d hHeld7
    clear hK K
    try clear hb
    try simp only [Act.put, List.setIfInBounds_toArray, List.set_cons_zero, List.set_cons_succ]
    generalize hGWA5 : World.alloc wb (.cells #[.int .i64 0, .int .u64 0] 41) = WA5 at *
    clear hGWA5
    refine wpAnyH_ready (rs := [10]) (by kernel_rfl) (by simp) ?_
    refine AllReadyH.cons (o := ⟨some 5, _, _, _, _, _⟩) rfl (fun K hK => ?_) AllReadyH.nil
    have hne6_5 := hS6.2.1.1
    have lo5 := hHeld7.1.size
    obtain ⟨⟨a5_z0, a5_c0, a5_f0⟩, ⟨a5_z1, a5_c1, a5_f1⟩, ⟨a5_z2, a5_c2, a5_f2⟩, ⟨a5_z3, a5_c3, a5_f3⟩, ⟨a5_z4, a5_c4, a5_f4⟩, ⟨a5_z5, a5_c5, a5_f5⟩, _⟩ := hHeld7.2
    (try simp at lo5); (try simp at hne6_5); (try simp at a5_z0); (try simp at a5_z1); (try simp at a5_z2); (try simp at a5_z3); (try simp at a5_z4); (try simp at a5_z5)
    go_simp
    refine hK.out _ _ (by first | exact hHeld7.alloc _ | exact (hHeld7.alloc _).drew) (fun hHeld8 => ?_)
    first | replace hS6 := hS6.alloc2e hHeld8 | replace hS6 := hS6.alloc2 hHeld8
    first | have hS5 := newK2 hHeld8 | have hS5 := newK2d hHeld8
    clear hK K
    try clear hb
    try simp only [Act.put, List.setIfInBounds_toArray, List.set_cons_zero, List.set_cons_succ]
    generalize hGWA6 : World.alloc WA5 (.cells #[.int .i64 0, .int .u64 0] 41) = WA6 at *
    clear hGWA6
    refine wpAnyH_ready (rs := [12]) (by kernel_rfl) (by simp) ?_
    refine AllReadyH.cons (o := ⟨none, _, _, _, _, _⟩) rfl (fun K hK => ?_) AllReadyH.nil
    obtain ⟨⟨s5z0, s5c0, s5f0⟩, ⟨s5z1, s5c1, s5f1⟩, _⟩ := hS5.2
    go_simp
    refine hK.out _ _ (by (repeat (first | (with_reducible exact hHeld8) | (refine Keeps.set ?_ (by simp <;> omega) (by simp <;> omega) _)))) (fun hHeld9 => ?_)
    replace hS6 := hS6.mv2 hHeld9 (by first | omega | (simp <;> omega)) (by simp <;> omega)
    replace hS5 := hHeld9.add2 s5z0 s5c0 s5f0 s5c1 s5f1
    clear s5z0 s5c0 s5f0 s5z1 s5c1 s5f1
    clear hK K
    try clear hb
    try simp only [Act.put, List.setIfInBounds_toArray, List.set_cons_zero, List.set_cons_succ]
    generalize hGWA7 : World.setCell (World.setCell WA6 ⟨WA5.heap.size, 0, none⟩ (.int .i64 x0)) ⟨WA5.heap.size, 1, none⟩ (.int .u64 x1) = WA7 at *
    clear hGWA7
    refine wpAnyH_ready (rs := [13]) (by kernel_rfl) (by simp) ?_
    refine AllReadyH.cons (o := ⟨none, _, _, _, _, _⟩) rfl (fun K hK => ?_) AllReadyH.nil
    obtain ⟨⟨s6z0, s6c0, s6f0⟩, ⟨s6z1, s6c1, s6f1⟩, _⟩ := hS6.2
    go_simp
    refine hK.out _ _ (by (repeat (first | (with_reducible exact hHeld9) | (refine Keeps.set ?_ (by simp <;> omega) (by simp <;> omega) _)))) (fun hHeld10 => ?_)
    replace hS5 := hS5.mv2 hHeld10 (by first | omega | (simp <;> omega)) (by simp <;> omega)
    replace hS6 := hHeld10.add2 s6z0 s6c0 s6f0 s6c1 s6f1
    clear s6z0 s6c0 s6f0 s6z1 s6c1 s6f1
    clear hK K
    try clear hb
    try simp only [Act.put, List.setIfInBounds_toArray, List.set_cons_zero, List.set_cons_succ]
    generalize hGWA8 : World.setCell (World.setCell WA7 ⟨wb.heap.size, 0, none⟩ (.int .i64 y0)) ⟨wb.heap.size, 1, none⟩ (.int .u64 y1) = WA8 at *
    clear hGWA8
    refine wpAnyH_done (by kernel_rfl) ?_ _
    have hHeld := hHeld10
    rotate_left 1
    exact AllReadyH.nil
    refine AllReadyH.cons (o := ⟨some 5, _, _, _, _, _⟩) rfl (fun K hK => ?_) ?_
    have lo5 := hHeld1.1.size
    obtain ⟨⟨a5_z0, a5_c0, a5_f0⟩, ⟨a5_z1, a5_c1, a5_f1⟩, ⟨a5_z2, a5_c2, a5_f2⟩, ⟨a5_z3, a5_c3, a5_f3⟩, ⟨a5_z4, a5_c4, a5_f4⟩, ⟨a5_z5, a5_c5, a5_f5⟩, _⟩ := hHeld1.2
    (try simp at lo5); (try simp at a5_z0); (try simp at a5_z1); (try simp at a5_z2); (try simp at a5_z3); (try simp at a5_z4); (try simp at a5_z5)
    go_simp
    refine hK.out _ _ (by first | exact hHeld1.alloc _ | exact (hHeld1.alloc _).drew) (fun hHeld11 => ?_)
    first | have hS5 := newK2 hHeld11 | have hS5 := newK2d hHeld11
    clear hK K
    try clear hb
    try simp only [Act.put, List.setIfInBounds_toArray, List.set_cons_zero, List.set_cons_succ]
    generalize hGWA9 : World.alloc wa (.cells #[.int .i64 0, .int .u64 0] 41) = WA9 at *
    clear hGWA9
    refine wpAnyH_ready (rs := [9, 11]) (by kernel_rfl) (by simp) ?_
    refine AllReadyH.cons (o := ⟨some 16, _, _, _, _, _⟩) rfl (fun K hK => ?_) ?_
    go_simp
    (first | ((with_reducible refine (M1.out _).mono ?_); rintro en wa ⟨rfl, hb⟩) | ((with_reducible refine (M2.out _).mono ?_); rintro en wb ⟨rfl, hb⟩))
    refine hK.out _ _ (hHeld11.next hb) (fun hHeld12 => ?_)
    replace hS5 := hS5.next hb
    clear hK K
    try clear hb
    try simp only [Act.put, List.setIfInBounds_toArray, List.set_cons_zero, List.set_cons_succ]
    refine wpAnyH_ready (rs := [11]) (by kernel_rfl) (by simp) ?_
    refine AllReadyH.cons (o := ⟨some 6, _, _, _, _, _⟩) rfl (fun K hK => ?_) AllReadyH.nil
    have hne5_6 := hS5.2.1.1
    have lo6 := hHeld12.1.size
    obtain ⟨⟨a6_z0, a6_c0, a6_f0⟩, ⟨a6_z1, a6_c1, a6_f1⟩, ⟨a6_z2, a6_c2, a6_f2⟩, ⟨a6_z3, a6_c3, a6_f3⟩, ⟨a6_z4, a6_c4, a6_f4⟩, ⟨a6_z5, a6_c5, a6_f5⟩, _⟩ := hHeld12.2
    (try simp at lo6); (try simp at hne5_6); (try simp at a6_z0); (try simp at a6_z1); (try simp at a6_z2); (try simp at a6_z3); (try simp at a6_z4); (try simp at a6_z5)
    go_simp
    refine hK.out _ _ (by first | exact hHeld12.alloc _ | exact (hHeld12.alloc _).drew) (fun hHeld13 => ?_)
    first | replace hS5 := hS5.alloc2e hHeld13 | replace hS5 := hS5.alloc2 hHeld13
    first | have hS6 := newK2 hHeld13 | have hS6 := newK2d hHeld13
    clear hK K
    try clear hb
    try simp only [Act.put, List.setIfInBounds_toArray, List.set_cons_zero, List.set_cons_succ]
    generalize hGWA10 : World.alloc wb (.cells #[.int .i64 0, .int .u64 0] 41) = WA10 at *
    clear hGWA10
    refine wpAnyH_ready (rs := [12]) (by kernel_rfl) (by simp) ?_
    refine AllReadyH.cons (o := ⟨none, _, _, _, _, _⟩) rfl (fun K hK => ?_) AllReadyH.nil
    obtain ⟨⟨s5z0, s5c0, s5f0⟩, ⟨s5z1, s5c1, s5f1⟩, _⟩ := hS5.2
    go_simp
    refine hK.out _ _ (by (repeat (first | (with_reducible exact hHeld13) | (refine Keeps.set ?_ (by simp <;> omega) (by simp <;> omega) _)))) (fun hHeld14 => ?_)
    replace hS6 := hS6.mv2 hHeld14 (by first | omega | (simp <;> omega)) (by simp <;> omega)
    replace hS5 := hHeld14.add2 s5z0 s5c0 s5f0 s5c1 s5f1
    clear s5z0 s5c0 s5f0 s5z1 s5c1 s5f1
    clear hK K
    try clear hb
    try simp only [Act.put, List.setIfInBounds_toArray, List.set_cons_zero, List.set_cons_succ]
    generalize hGWA11 : World.setCell (World.setCell WA10 ⟨wa.heap.size, 0, none⟩ (.int .i64 x0)) ⟨wa.heap.size, 1, none⟩ (.int .u64 x1) = WA11 at *
    clear hGWA11
    refine wpAnyH_ready (rs := [13]) (by kernel_rfl) (by simp) ?_
    refine AllReadyH.cons (o := ⟨none, _, _, _, _, _⟩) rfl (fun K hK => ?_) AllReadyH.nil
    obtain ⟨⟨s6z0, s6c0, s6f0⟩, ⟨s6z1, s6c1, s6f1⟩, _⟩ := hS6.2
    go_simp
    refine hK.out _ _ (by (repeat (first | (with_reducible exact hHeld14) | (refine Keeps.set ?_ (by simp <;> omega) (by simp <;> omega) _)))) (fun hHeld15 => ?_)
    replace hS5 := hS5.mv2 hHeld15 (by first | omega | (simp <;> omega)) (by simp <;> omega)
    replace hS6 := hHeld15.add2 s6z0 s6c0 s6f0 s6c1 s6f1
    clear s6z0 s6c0 s6f0 s6z1 s6c1 s6f1
    clear hK K
    try clear hb
    try simp only [Act.put, List.setIfInBounds_toArray, List.set_cons_zero, List.set_cons_succ]
    generalize hGWA12 : World.setCell (World.setCell WA11 ⟨wb.heap.size, 0, none⟩ (.int .i64 y0)) ⟨wb.heap.size, 1, none⟩ (.int .u64 y1) = WA12 at *
    clear hGWA12
    refine wpAnyH_done (by kernel_rfl) ?_ _
    have hHeld := hHeld15
    rotate_left 1
    refine AllReadyH.cons (o := ⟨some 6, _, _, _, _, _⟩) rfl (fun K hK => ?_) ?_
    have hne5_6 := hS5.2.1.1
    have lo6 := hHeld11.1.size
    obtain ⟨⟨a6_z0, a6_c0, a6_f0⟩, ⟨a6_z1, a6_c1, a6_f1⟩, ⟨a6_z2, a6_c2, a6_f2⟩, ⟨a6_z3, a6_c3, a6_f3⟩, ⟨a6_z4, a6_c4, a6_f4⟩, ⟨a6_z5, a6_c5, a6_f5⟩, _⟩ := hHeld11.2
    (try simp at lo6); (try simp at hne5_6); (try simp at a6_z0); (try simp at a6_z1); (try simp at a6_z2); (try simp at a6_z3); (try simp at a6_z4); (try simp at a6_z5)
    go_simp
    refine hK.out _ _ (by first | exact hHeld11.alloc _ | exact (hHeld11.alloc _).drew) (fun hHeld16 => ?_)
    first | replace hS5 := hS5.alloc2e hHeld16 | replace hS5 := hS5.alloc2 hHeld16
    first | have hS6 := newK2 hHeld16 | have hS6 := newK2d hHeld16
    clear hK K
    try clear hb
    try simp only [Act.put, List.setIfInBounds_toArray, List.set_cons_zero, List.set_cons_succ]
    generalize hGWA13 : World.alloc WA9 (.cells #[.int .i64 0, .int .u64 0] 41) = WA13 at *
    clear hGWA13
    refine wpAnyH_ready (rs := [9]) (by kernel_rfl) (by simp) ?_
    refine AllReadyH.cons (o := ⟨some 16, _, _, _, _, _⟩) rfl (fun K hK => ?_) AllReadyH.nil
    go_simp
    (first | ((with_reducible refine (M1.out _).mono ?_); rintro en wa ⟨rfl, hb⟩) | ((with_reducible refine (M2.out _).mono ?_); rintro en wb ⟨rfl, hb⟩))
    refine hK.out _ _ (hHeld16.next hb) (fun hHeld17 => ?_)
    replace hS5 := hS5.next hb
    replace hS6 := hS6.next hb
    clear hK K
    try clear hb
    try simp only [Act.put, List.setIfInBounds_toArray, List.set_cons_zero, List.set_cons_succ]
    refine wpAnyH_ready (rs := [12]) (by kernel_rfl) (by simp) ?_
    refine AllReadyH.cons (o := ⟨none, _, _, _, _, _⟩) rfl (fun K hK => ?_) AllReadyH.nil
    obtain ⟨⟨s5z0, s5c0, s5f0⟩, ⟨s5z1, s5c1, s5f1⟩, _⟩ := hS5.2
    go_simp
    refine hK.out _ _ (by (repeat (first | (with_reducible exact hHeld17) | (refine Keeps.set ?_ (by simp <;> omega) (by simp <;> omega) _)))) (fun hHeld18 => ?_)
    replace hS6 := hS6.mv2 hHeld18 (by first | omega | (simp <;> omega)) (by simp <;> omega)
    replace hS5 := hHeld18.add2 s5z0 s5c0 s5f0 s5c1 s5f1
    clear s5z0 s5c0 s5f0 s5z1 s5c1 s5f1
    clear hK K
    try clear hb
    try simp only [Act.put, List.setIfInBounds_toArray, List.set_cons_zero, List.set_cons_succ]
    generalize hGWA14 : World.setCell (World.setCell wb ⟨wa.heap.size, 0, none⟩ (.int .i64 x0)) ⟨wa.heap.size, 1, none⟩ (.int .u64 x1) = WA14 at *
    clear hGWA14
    refine wpAnyH_ready (rs := [13]) (by kernel_rfl) (by simp) ?_
    refine AllReadyH.cons (o := ⟨none, _, _, _, _, _⟩) rfl (fun K hK => ?_) AllReadyH.nil
    obtain ⟨⟨s6z0, s6c0, s6f0⟩, ⟨s6z1, s6c1, s6f1⟩, _⟩ := hS6.2
    go_simp
    refine hK.out _ _ (by (repeat (first | (with_reducible exact hHeld18) | (refine Keeps.set ?_ (by simp <;> omega) (by simp <;> omega) _)))) (fun hHeld19 => ?_)
    replace hS5 := hS5.mv2 hHeld19 (by first | omega | (simp <;> omega)) (by simp <;> omega)
    replace hS6 := hHeld19.add2 s6z0 s6c0 s6f0 s6c1 s6f1
    clear s6z0 s6c0 s6f0 s6z1 s6c1 s6f1
    clear hK K
    try clear hb
    try simp only [Act.put, List.setIfInBounds_toArray, List.set_cons_zero, List.set_cons_succ]
    generalize hGWA15 : World.setCell (World.setCell WA14 ⟨WA9.heap.size, 0, none⟩ (.int .i64 y0)) ⟨WA9.heap.size, 1, none⟩ (.int .u64 y1) = WA15 at *
    clear hGWA15
    refine wpAnyH_done (by kernel_rfl) ?_ _
    have hHeld := hHeld19
    rotate_left 1
    exact AllReadyH.nil
    refine AllReadyH.cons (o := ⟨some 6, _, _, _, _, _⟩) rfl (fun K hK => ?_) ?_
    have lo6 := hHeld1.1.size
    obtain ⟨⟨a6_z0, a6_c0, a6_f0⟩, ⟨a6_z1, a6_c1, a6_f1⟩, ⟨a6_z2, a6_c2, a6_f2⟩, ⟨a6_z3, a6_c3, a6_f3⟩, ⟨a6_z4, a6_c4, a6_f4⟩, ⟨a6_z5, a6_c5, a6_f5⟩, _⟩ := hHeld1.2
    (try simp at lo6); (try simp at a6_z0); (try simp at a6_z1); (try simp at a6_z2); (try simp at a6_z3); (try simp at a6_z4); (try simp at a6_z5)
    go_simp
    refine hK.out _ _ (by first | exact hHeld1.alloc _ | exact (hHeld1.alloc _).drew) (fun hHeld20 => ?_)
    first | have hS6 := newK2 hHeld20 | have hS6 := newK2d hHeld20
    clear hK K
    try clear hb
    try simp only [Act.put, List.setIfInBounds_toArray, List.set_cons_zero, List.set_cons_succ]
    generalize hGWA16 : World.alloc wa (.cells #[.int .i64 0, .int .u64 0] 41) = WA16 at *
    clear hGWA16
    refine wpAnyH_ready (rs := [9, 10]) (by kernel_rfl) (by simp) ?_
    refine AllReadyH.cons (o := ⟨some 16, _, _, _, _, _⟩) rfl (fun K hK => ?_) ?_
    go_simp
    (first | ((with_reducible refine (M1.out _).mono ?_); rintro en wa ⟨rfl, hb⟩) | ((with_reducible refine (M2.out _).mono ?_); rintro en wb ⟨rfl, hb⟩))
    refine hK.out _ _ (hHeld20.next hb) (fun hHeld21 => ?_)
    replace hS6 := hS6.next hb
    clear hK K
    try clear hb
    try simp only [Act.put, List.setIfInBounds_toArray, List.set_cons_zero, List.set_cons_succ]
    refine wpAnyH_ready (rs := [10]) (by kernel_rfl) (by simp) ?_
    refine AllReadyH.cons (o := ⟨some 5, _, _, _, _, _⟩) rfl (fun K hK => ?_) AllReadyH.nil
    have hne6_5 := hS6.2.1.1
    have lo5 := hHeld21.1.size
    obtain ⟨⟨a5_z0, a5_c0, a5_f0⟩, ⟨a5_z1, a5_c1, a5_f1⟩, ⟨a5_z2, a5_c2, a5_f2⟩, ⟨a5_z3, a5_c3, a5_f3⟩, ⟨a5_z4, a5_c4, a5_f4⟩, ⟨a5_z5, a5_c5, a5_f5⟩, _⟩ := hHeld21.2
    (try simp at lo5); (try simp at hne6_5); (try simp at a5_z0); (try simp at a5_z1); (try simp at a5_z2); (try simp at a5_z3); (try simp at a5_z4); (try simp at a5_z5)
    go_simp
    refine hK.out _ _ (by first | exact hHeld21.alloc _ | exact (hHeld21.alloc _).drew) (fun hHeld22 => ?_)
    first | replace hS6 := hS6.alloc2e hHeld22 | replace hS6 := hS6.alloc2 hHeld22
    first | have hS5 := newK2 hHeld22 | have hS5 := newK2d hHeld22
    clear hK K
    try clear hb
    try simp only [Act.put, List.setIfInBounds_toArray, List.set_cons_zero, List.set_cons_succ]
    generalize hGWA17 : World.alloc wb (.cells #[.int .i64 0, .int .u64 0] 41) = WA17 at *
    clear hGWA17
    refine wpAnyH_ready (rs := [12]) (by kernel_rfl) (by simp) ?_
    refine AllReadyH.cons (o := ⟨none, _, _, _, _, _⟩) rfl (fun K hK => ?_) AllReadyH.nil
    obtain ⟨⟨s5z0, s5c0, s5f0⟩, ⟨s5z1, s5c1, s5f1⟩, _⟩ := hS5.2
    go_simp
    refine hK.out _ _ (by (repeat (first | (with_reducible exact hHeld22) | (refine Keeps.set ?_ (by simp <;> omega) (by simp <;> omega) _)))) (fun hHeld23 => ?_)
    replace hS6 := hS6.mv2 hHeld23 (by first | omega | (simp <;> omega)) (by simp <;> omega)
    replace hS5 := hHeld23.add2 s5z0 s5c0 s5f0 s5c1 s5f1
    clear s5z0 s5c0 s5f0 s5z1 s5c1 s5f1
    clear hK K
    try clear hb
    try simp only [Act.put, List.setIfInBounds_toArray, List.set_cons_zero, List.set_cons_succ]
    generalize hGWA18 : World.setCell (World.setCell WA17 ⟨wb.heap.size, 0, none⟩ (.int .i64 x0)) ⟨wb.heap.size, 1, none⟩ (.int .u64 x1) = WA18 at *
    clear hGWA18
    refine wpAnyH_ready (rs := [13]) (by kernel_rfl) (by simp) ?_
    refine AllReadyH.cons (o := ⟨none, _, _, _, _, _⟩) rfl (fun K hK => ?_) AllReadyH.nil
    obtain ⟨⟨s6z0, s6c0, s6f0⟩, ⟨s6z1, s6c1, s6f1⟩, _⟩ := hS6.2
    go_simp
    refine hK.out _ _ (by (repeat (first | (with_reducible exact hHeld23) | (refine Keeps.set ?_ (by simp <;> omega) (by simp <;> omega) _)))) (fun hHeld24 => ?_)
    replace hS5 := hS5.mv2 hHeld24 (by first | omega | (simp <;> omega)) (by simp <;> omega)
    replace hS6 := hHeld24.add2 s6z0 s6c0 s6f0 s6c1 s6f1
    clear s6z0 s6c0 s6f0 s6z1 s6c1 s6f1
    clear hK K
    try clear hb
    try simp only [Act.put, List.setIfInBounds_toArray, List.set_cons_zero, List.set_cons_succ]
    generalize hGWA19 : World.setCell (World.setCell WA18 ⟨wa.heap.size, 0, none⟩ (.int .i64 y0)) ⟨wa.heap.size, 1, none⟩ (.int .u64 y1) = WA19 at *
    clear hGWA19
    refine wpAnyH_done (by kernel_rfl) ?_ _
    have hHeld := hHeld24
    rotate_left 1
    refine AllReadyH.cons (o := ⟨some 5, _, _, _, _, _⟩) rfl (fun K hK => ?_) ?_
    have hne6_5 := hS6.2.1.1
    have lo5 := hHeld20.1.size
    obtain ⟨⟨a5_z0, a5_c0, a5_f0⟩, ⟨a5_z1, a5_c1, a5_f1⟩, ⟨a5_z2, a5_c2, a5_f2⟩, ⟨a5_z3, a5_c3, a5_f3⟩, ⟨a5_z4, a5_c4, a5_f4⟩, ⟨a5_z5, a5_c5, a5_f5⟩, _⟩ := hHeld20.2
    (try simp at lo5); (try simp at hne6_5); (try simp at a5_z0); (try simp at a5_z1); (try simp at a5_z2); (try simp at a5_z3); (try simp at a5_z4); (try simp at a5_z5)
    go_simp
    refine hK.out _ _ (by first | exact hHeld20.alloc _ | exact (hHeld20.alloc _).drew) (fun hHeld25 => ?_)
    first | replace hS6 := hS6.alloc2e hHeld25 | replace hS6 := hS6.alloc2 hHeld25
    first | have hS5 := newK2 hHeld25 | have hS5 := newK2d hHeld25
    clear hK K
    try clear hb
    try simp only [Act.put, List.setIfInBounds_toArray, List.set_cons_zero, List.set_cons_succ]
    generalize hGWA20 : World.alloc WA16 (.cells #[.int .i64 0, .int .u64 0] 41) = WA20 at *
    clear hGWA20
    refine wpAnyH_ready (rs := [9]) (by kernel_rfl) (by simp) ?_
    refine AllReadyH.cons (o := ⟨some 16, _, _, _, _, _⟩) rfl (fun K hK => ?_) AllReadyH.nil
    go_simp
    (first | ((with_reducible refine (M1.out _).mono ?_); rintro en wa ⟨rfl, hb⟩) | ((with_reducible refine (M2.out _).mono ?_); rintro en wb ⟨rfl, hb⟩))
    refine hK.out _ _ (hHeld25.next hb) (fun hHeld26 => ?_)
    replace hS6 := hS6.next hb
    replace hS5 := hS5.next hb
    clear hK K
    try clear hb
    try simp only [Act.put, List.setIfInBounds_toArray, List.set_cons_zero, List.set_cons_succ]
    refine wpAnyH_ready (rs := [12]) (by kernel_rfl) (by simp) ?_
    refine AllReadyH.cons (o := ⟨none, _, _, _, _, _⟩) rfl (fun K hK => ?_) AllReadyH.nil
    obtain ⟨⟨s5z0, s5c0, s5f0⟩, ⟨s5z1, s5c1, s5f1⟩, _⟩ := hS5.2
    go_simp
    refine hK.out _ _ (by (repeat (first | (with_reducible exact hHeld26) | (refine Keeps.set ?_ (by simp <;> omega) (by simp <;> omega) _)))) (fun hHeld27 => ?_)
    replace hS6 := hS6.mv2 hHeld27 (by first | omega | (simp <;> omega)) (by simp <;> omega)
    replace hS5 := hHeld27.add2 s5z0 s5c0 s5f0 s5c1 s5f1
    clear s5z0 s5c0 s5f0 s5z1 s5c1 s5f1
    clear hK K
    try clear hb
    try simp only [Act.put, List.setIfInBounds_toArray, List.set_cons_zero, List.set_cons_succ]
    generalize hGWA21 : World.setCell (World.setCell wb ⟨WA16.heap.size, 0, none⟩ (.int .i64 x0)) ⟨WA16.heap.size, 1, none⟩ (.int .u64 x1) = WA21 at *
    clear hGWA21
    refine wpAnyH_ready (rs := [13]) (by kernel_rfl) (by simp) ?_
    refine AllReadyH.cons (o := ⟨none, _, _, _, _, _⟩) rfl (fun K hK => ?_) AllReadyH.nil
    obtain ⟨⟨s6z0, s6c0, s6f0⟩, ⟨s6z1, s6c1, s6f1⟩, _⟩ := hS6.2
    go_simp
    refine hK.out _ _ (by (repeat (first | (with_reducible exact hHeld27) | (refine Keeps.set ?_ (by simp <;> omega) (by simp <;> omega) _)))) (fun hHeld28 => ?_)
    replace hS5 := hS5.mv2 hHeld28 (by first | omega | (simp <;> omega)) (by simp <;> omega)
    replace hS6 := hHeld28.add2 s6z0 s6c0 s6f0 s6c1 s6f1
    clear s6z0 s6c0 s6f0 s6z1 s6c1 s6f1
    clear hK K
    try clear hb
    try simp only [Act.put, List.setIfInBounds_toArray, List.set_cons_zero, List.set_cons_succ]
    generalize hGWA22 : World.setCell (World.setCell WA21 ⟨wa.heap.size, 0, none⟩ (.int .i64 y0)) ⟨wa.heap.size, 1, none⟩ (.int .u64 y1) = WA22 at *
    clear hGWA22
    refine wpAnyH_done (by kernel_rfl) ?_ _
    have hHeld := hHeld28
    rotate_left 1
    exact AllReadyH.nil
    exact AllReadyH.nil
    refine AllReadyH.cons (o := ⟨some 5, _, _, _, _, _⟩) rfl (fun K hK => ?_) ?_
    have lo5 := hHeld0.1.size
    obtain ⟨⟨a5_z0, a5_c0, a5_f0⟩, ⟨a5_z1, a5_c1, a5_f1⟩, ⟨a5_z2, a5_c2, a5_f2⟩, ⟨a5_z3, a5_c3, a5_f3⟩, ⟨a5_z4, a5_c4, a5_f4⟩, ⟨a5_z5, a5_c5, a5_f5⟩, _⟩ := hHeld0.2
    (try simp at lo5); (try simp at a5_z0); (try simp at a5_z1); (try simp at a5_z2); (try simp at a5_z3); (try simp at a5_z4); (try simp at a5_z5)
    go_simp
    refine hK.out _ _ (by first | exact hHeld0.alloc _ | exact (hHeld0.alloc _).drew) (fun hHeld29 => ?_)
    first | have hS5 := newK2 hHeld29 | have hS5 := newK2d hHeld29
    clear hK K
    try clear hb
    try simp only [Act.put, List.setIfInBounds_toArray, List.set_cons_zero, List.set_cons_succ]
    generalize hGWA23 : World.alloc wi (.cells #[.int .i64 0, .int .u64 0] 41) = WA23 at *
    clear hGWA23
    refine wpAnyH_ready (rs := [4, 11]) (by kernel_rfl) (by simp) ?_
    refine AllReadyH.cons (o := ⟨some 11, _, _, _, _, _⟩) rfl (fun K hK => ?_) ?_
    go_simp
    (first | ((with_reducible refine (M1.out _).mono ?_); rintro en wa ⟨rfl, hb⟩) | ((with_reducible refine (M2.out _).mono ?_); rintro en wb ⟨rfl, hb⟩))
    refine hK.out _ _ (hHeld29.next hb) (fun hHeld30 => ?_)
    replace hS5 := hS5.next hb
    clear hK K
    try clear hb
    try simp only [Act.put, List.setIfInBounds_toArray, List.set_cons_zero, List.set_cons_succ]
    refine wpAnyH_ready (rs := [9, 11]) (by kernel_rfl) (by simp) ?_
    refine AllReadyH.cons (o := ⟨some 16, _, _, _, _, _⟩) rfl (fun K hK => ?_) ?_
    go_simp
    (first | ((with_reducible refine (M1.out _).mono ?_); rintro en wa ⟨rfl, hb⟩) | ((with_reducible refine (M2.out _).mono ?_); rintro en wb ⟨rfl, hb⟩))
    refine hK.out _ _ (hHeld30.next hb) (fun hHeld31 => ?_)
    replace hS5 := hS5.next hb
    clear hK K
    try clear hb
    try simp only [Act.put, List.setIfInBounds_toArray, List.set_cons_zero, List.set_cons_succ]
    refine wpAnyH_ready (rs := [11]) (by kernel_rfl) (by simp) ?_
    refine AllReadyH.cons (o := ⟨some 6, _, _, _, _, _⟩) rfl (fun K hK => ?_) AllReadyH.nil
    have hne5_6 := hS5.2.1.1
    have lo6 := hHeld31.1.size
    obtain ⟨⟨a6_z0, a6_c0, a6_f0⟩, ⟨a6_z1, a6_c1, a6_f1⟩, ⟨a6_z2, a6_c2, a6_f2⟩, ⟨a6_z3, a6_c3, a6_f3⟩, ⟨a6_z4, a6_c4, a6_f4⟩, ⟨a6_z5, a6_c5, a6_f5⟩, _⟩ := hHeld31.2
    (try simp at lo6); (try simp at hne5_6); (try simp at a6_z0); (try simp at a6_z1); (try simp at a6_z2); (try simp at a6_z3); (try simp at a6_z4); (try simp at a6_z5)
    go_simp
    refine hK.out _ _ (by first | exact hHeld31.alloc _ | exact (hHeld31.alloc _).drew) (fun hHeld32 => ?_)
    first | replace hS5 := hS5.alloc2e hHeld32 | replace hS5 := hS5.alloc2 hHeld32
    first | have hS6 := newK2 hHeld32 | have hS6 := newK2d hHeld32
    clear hK K
    try clear hb
    try simp only [Act.put, List.setIfInBounds_toArray, List.set_cons_zero, List.set_cons_succ]
    generalize hGWA24 : World.alloc wb (.cells #[.int .i64 0, .int .u64 0] 41) = WA24 at *
    clear hGWA24
    refine wpAnyH_ready (rs := [12]) (by kernel_rfl) (by simp) ?_
    refine AllReadyH.cons (o := ⟨none, _, _, _, _, _⟩) rfl (fun K hK => ?_) AllReadyH.nil
    obtain ⟨⟨s5z0, s5c0, s5f0⟩, ⟨s5z1, s5c1, s5f1⟩, _⟩ := hS5.2
    go_simp
    refine hK.out _ _ (by (repeat (first | (with_reducible exact hHeld32) | (refine Keeps.set ?_ (by simp <;> omega) (by simp <;> omega) _)))) (fun hHeld33 => ?_)
    replace hS6 := hS6.mv2 hHeld33 (by first | omega | (simp <;> omega)) (by simp <;> omega)
    replace hS5 := hHeld33.add2 s5z0 s5c0 s5f0 s5c1 s5f1
    clear s5z0 s5c0 s5f0 s5z1 s5c1 s5f1
    clear hK K
    try clear hb
    try simp only [Act.put, List.setIfInBounds_toArray, List.set_cons_zero, List.set_cons_succ]
    generalize hGWA25 : World.setCell (World.setCell WA24 ⟨wi.heap.size, 0, none⟩ (.int .i64 x0)) ⟨wi.heap.size, 1, none⟩ (.int .u64 x1) = WA25 at *
    clear hGWA25
    refine wpAnyH_ready (rs := [13]) (by kernel_rfl) (by simp) ?_
    refine AllReadyH.cons (o := ⟨none, _, _, _, _, _⟩) rfl (fun K hK => ?_) AllReadyH.nil
    obtain ⟨⟨s6z0, s6c0, s6f0⟩, ⟨s6z1, s6c1, s6f1⟩, _⟩ := hS6.2
    go_simp
    refine hK.out _ _ (by (repeat (first | (with_reducible exact hHeld33) | (refine Keeps.set ?_ (by simp <;> omega) (by simp <;> omega) _)))) (fun hHeld34 => ?_)
    replace hS5 := hS5.mv2 hHeld34 (by first | omega | (simp <;> omega)) (by simp <;> omega)
    replace hS6 := hHeld34.add2 s6z0 s6c0 s6f0 s6c1 s6f1
    clear s6z0 s6c0 s6f0 s6z1 s6c1 s6f1
    clear hK K
    try clear hb
    try simp only [Act.put, List.setIfInBounds_toArray, List.set_cons_zero, List.set_cons_succ]
    generalize hGWA26 : World.setCell (World.setCell WA25 ⟨wb.heap.size, 0, none⟩ (.int .i64 y0)) ⟨wb.heap.size, 1, none⟩ (.int .u64 y1) = WA26 at *
    clear hGWA26
    refine wpAnyH_done (by kernel_rfl) ?_ _
    have hHeld := hHeld34
    rotate_left 1
    refine AllReadyH.cons (o := ⟨some 6, _, _, _, _, _⟩) rfl (fun K hK => ?_) ?_
    have hne5_6 := hS5.2.1.1
    have lo6 := hHeld30.1.size
    obtain ⟨⟨a6_z0, a6_c0, a6_f0⟩, ⟨a6_z1, a6_c1, a6_f1⟩, ⟨a6_z2, a6_c2, a6_f2⟩, ⟨a6_z3, a6_c3, a6_f3⟩, ⟨a6_z4, a6_c4, a6_f4⟩, ⟨a6_z5, a6_c5, a6_f5⟩, _⟩ := hHeld30.2
    (try simp at lo6); (try simp at hne5_6); (try simp at a6_z0); (try simp at a6_z1); (try simp at a6_z2); (try simp at a6_z3); (try simp at a6_z4); (try simp at a6_z5)
    go_simp
    refine hK.out _ _ (by first | exact hHeld30.alloc _ | exact (hHeld30.alloc _).drew) (fun hHeld35 => ?_)
    first | replace hS5 := hS5.alloc2e hHeld35 | replace hS5 := hS5.alloc2 hHeld35
    first | have hS6 := newK2 hHeld35 | have hS6 := newK2d hHeld35
    clear hK K
    try clear hb
    try simp only [Act.put, List.setIfInBounds_toArray, List.set_cons_zero, List.set_cons_succ]
    generalize hGWA27 : World.alloc wa (.cells #[.int .i64 0, .int .u64 0] 41) = WA27 at *
    clear hGWA27
    refine wpAnyH_ready (rs := [9]) (by kernel_rfl) (by simp) ?_
    refine AllReadyH.cons (o := ⟨some 16, _, _, _, _, _⟩) rfl (fun K hK => ?_) AllReadyH.nil
    go_simp
    (first | ((with_reducible refine (M1.out _).mono ?_); rintro en wa ⟨rfl, hb⟩) | ((with_reducible refine (M2.out _).mono ?_); rintro en wb ⟨rfl, hb⟩))
    refine hK.out _ _ (hHeld35.next hb) (fun hHeld36 => ?_)
    replace hS5 := hS5.next hb
    replace hS6 := hS6.next hb
    clear hK K
    try clear hb
    try simp only [Act.put, List.setIfInBounds_toArray, List.set_cons_zero, List.set_cons_succ]
    refine wpAnyH_ready (rs := [12]) (by kernel_rfl) (by simp) ?_
    refine AllReadyH.cons (o := ⟨none, _, _, _, _, _⟩) rfl (fun K hK => ?_) AllReadyH.nil
    obtain ⟨⟨s5z0, s5c0, s5f0⟩, ⟨s5z1, s5c1, s5f1⟩, _⟩ := hS5.2
    go_simp
    refine hK.out _ _ (by (repeat (first | (with_reducible exact hHeld36) | (refine Keeps.set ?_ (by simp <;> omega) (by simp <;> omega) _)))) (fun hHeld37 => ?_)
    replace hS6 := hS6.mv2 hHeld37 (by first | omega | (simp <;> omega)) (by simp <;> omega)
    replace hS5 := hHeld37.add2 s5z0 s5c0 s5f0 s5c1 s5f1
    clear s5z0 s5c0 s5f0 s5z1 s5c1 s5f1
    clear hK K
    try clear hb
    try simp only [Act.put, List.setIfInBounds_toArray, List.set_cons_zero, List.set_cons_succ]
    generalize hGWA28 : World.setCell (World.setCell wb ⟨wi.heap.size, 0, none⟩ (.int .i64 x0)) ⟨wi.heap.size, 1, none⟩ (.int .u64 x1) = WA28 at *
    clear hGWA28
    refine wpAnyH_ready (rs := [13]) (by kernel_rfl) (by simp) ?_
    refine AllReadyH.cons (o := ⟨none, _, _, _, _, _⟩) rfl (fun K hK => ?_) AllReadyH.nil
    obtain ⟨⟨s6z0, s6c0, s6f0⟩, ⟨s6z1, s6c1, s6f1⟩, _⟩ := hS6.2
    go_simp
    refine hK.out _ _ (by (repeat (first | (with_reducible exact hHeld37) | (refine Keeps.set ?_ (by simp <;> omega) (by simp <;> omega) _)))) (fun hHeld38 => ?_)
    replace hS5 := hS5.mv2 hHeld38 (by first | omega | (simp <;> omega)) (by simp <;> omega)
    replace hS6 := hHeld38.add2 s6z0 s6c0 s6f0 s6c1 s6f1
    clear s6z0 s6c0 s6f0 s6z1 s6c1 s6f1
    clear hK K
    try clear hb
    try simp only [Act.put, List.setIfInBounds_toArray, List.set_cons_zero, List.set_cons_succ]
    generalize hGWA29 : World.setCell (World.setCell WA28 ⟨wa.heap.size, 0, none⟩ (.int .i64 y0)) ⟨wa.heap.size, 1, none⟩ (.int .u64 y1) = WA29 at *
    clear hGWA29
    refine wpAnyH_done (by kernel_rfl) ?_ _
    have hHeld := hHeld38
    rotate_left 1
    exact AllReadyH.nil
    refine AllReadyH.cons (o := ⟨some 6, _, _, _, _, _⟩) rfl (fun K hK => ?_) ?_
    have hne5_6 := hS5.2.1.1
    have lo6 := hHeld29.1.size
    obtain ⟨⟨a6_z0, a6_c0, a6_f0⟩, ⟨a6_z1, a6_c1, a6_f1⟩, ⟨a6_z2, a6_c2, a6_f2⟩, ⟨a6_z3, a6_c3, a6_f3⟩, ⟨a6_z4, a6_c4, a6_f4⟩, ⟨a6_z5, a6_c5, a6_f5⟩, _⟩ := hHeld29.2
    (try simp at lo6); (try simp at hne5_6); (try simp at a6_z0); (try simp at a6_z1); (try simp at a6_z2); (try simp at a6_z3); (try simp at a6_z4); (try simp at a6_z5)
    go_simp
    refine hK.out _ _ (by first | exact hHeld29.alloc _ | exact (hHeld29.alloc _).drew) (fun hHeld39 => ?_)
    first | replace hS5 := hS5.alloc2e hHeld39 | replace hS5 := hS5.alloc2 hHeld39
    first | have hS6 := newK2 hHeld39 | have hS6 := newK2d hHeld39
    clear hK K
    try clear hb
    try simp only [Act.put, List.setIfInBounds_toArray, List.set_cons_zero, List.set_cons_succ]
    generalize hGWA30 : World.alloc WA23 (.cells #[.int .i64 0, .int .u64 0] 41) = WA30 at *
    clear hGWA30
    refine wpAnyH_ready (rs := [4]) (by kernel_rfl) (by simp) ?_
    refine AllReadyH.cons (o := ⟨some 11, _, _, _, _, _⟩) rfl (fun K hK => ?_) AllReadyH.nil
    go_simp
    (first | ((with_reducible refine (M1.out _).mono ?_); rintro en wa ⟨rfl, hb⟩) | ((with_reducible refine (M2.out _).mono ?_); rintro en wb ⟨rfl, hb⟩))
    refine hK.out _ _ (hHeld39.next hb) (fun hHeld40 => ?_)
    replace hS5 := hS5.next hb
    replace hS6 := hS6.next hb
    clear hK K
    try clear hb
    try simp only [Act.put, List.setIfInBounds_toArray, List.set_cons_zero, List.set_cons_succ]
    refine wpAnyH_ready (rs := [9]) (by kernel_rfl) (by simp) ?_
    refine AllReadyH.cons (o := ⟨some 16, _, _, _, _, _⟩) rfl (fun K hK => ?_) AllReadyH.nil
    go_simp
    (first | ((with_reducible refine (M1.out _).mono ?_); rintro en wa ⟨rfl, hb⟩) | ((with_reducible refine (M2.out _).mono ?_); rintro en wb ⟨rfl, hb⟩))
    refine hK.out _ _ (hHeld40.next hb) (fun hHeld41 => ?_)
    replace hS5 := hS5.next hb
    replace hS6 := hS6.next hb
    clear hK K
    try clear hb
    try simp only [Act.put, List.setIfInBounds_toArray, List.set_cons_zero, List.set_cons_succ]
    refine wpAnyH_ready (rs := [12]) (by kernel_rfl) (by simp) ?_
    refine AllReadyH.cons (o := ⟨none, _, _, _, _, _⟩) rfl (fun K hK => ?_) AllReadyH.nil
    obtain ⟨⟨s5z0, s5c0, s5f0⟩, ⟨s5z1, s5c1, s5f1⟩, _⟩ := hS5.2
    go_simp
    refine hK.out _ _ (by (repeat (first | (with_reducible exact hHeld41) | (refine Keeps.set ?_ (by simp <;> omega) (by simp <;> omega) _)))) (fun hHeld42 => ?_)
    replace hS6 := hS6.mv2 hHeld42 (by first | omega | (simp <;> omega)) (by simp <;> omega)
    replace hS5 := hHeld42.add2 s5z0 s5c0 s5f0 s5c1 s5f1
    clear s5z0 s5c0 s5f0 s5z1 s5c1 s5f1
    clear hK K
    try clear hb
    try simp only [Act.put, List.setIfInBounds_toArray, List.set_cons_zero, List.set_cons_succ]
    generalize hGWA31 : World.setCell (World.setCell wb ⟨wi.heap.size, 0, none⟩ (.int .i64 x0)) ⟨wi.heap.size, 1, none⟩ (.int .u64 x1) = WA31 at *
    clear hGWA31
    refine wpAnyH_ready (rs := [13]) (by kernel_rfl) (by simp) ?_
    refine AllReadyH.cons (o := ⟨none, _, _, _, _, _⟩) rfl (fun K hK => ?_) AllReadyH.nil
    obtain ⟨⟨s6z0, s6c0, s6f0⟩, ⟨s6z1, s6c1, s6f1⟩, _⟩ := hS6.2
    go_simp
    refine hK.out _ _ (by (repeat (first | (with_reducible exact hHeld42) | (refine Keeps.set ?_ (by simp <;> omega) (by simp <;> omega) _)))) (fun hHeld43 => ?_)
    replace hS5 := hS5.mv2 hHeld43 (by first | omega | (simp <;> omega)) (by simp <;> omega)
    replace hS6 := hHeld43.add2 s6z0 s6c0 s6f0 s6c1 s6f1
    clear s6z0 s6c0 s6f0 s6z1 s6c1 s6f1
    clear hK K
    try clear hb
    try simp only [Act.put, List.setIfInBounds_toArray, List.set_cons_zero, List.set_cons_succ]
    generalize hGWA32 : World.setCell (World.setCell WA31 ⟨WA23.heap.size, 0, none⟩ (.int .i64 y0)) ⟨WA23.heap.size, 1, none⟩ (.int .u64 y1) = WA32 at *
    clear hGWA32
    refine wpAnyH_done (by kernel_rfl) ?_ _
    have hHeld := hHeld43
    rotate_left 1
    exact AllReadyH.nil
    refine AllReadyH.cons (o := ⟨some 6, _, _, _, _, _⟩) rfl (fun K hK => ?_) ?_
    have lo6 := hHeld0.1.size
    obtain ⟨⟨a6_z0, a6_c0, a6_f0⟩, ⟨a6_z1, a6_c1, a6_f1⟩, ⟨a6_z2, a6_c2, a6_f2⟩, ⟨a6_z3, a6_c3, a6_f3⟩, ⟨a6_z4, a6_c4, a6_f4⟩, ⟨a6_z5, a6_c5, a6_f5⟩, _⟩ := hHeld0.2
    (try simp at lo6); (try simp at a6_z0); (try simp at a6_z1); (try simp at a6_z2); (try simp at a6_z3); (try simp at a6_z4); (try simp at a6_z5)
    go_simp
    refine hK.out _ _ (by first | exact hHeld0.alloc _ | exact (hHeld0.alloc _).drew) (fun hHeld44 => ?_)
    first | have hS6 := newK2 hHeld44 | have hS6 := newK2d hHeld44
    clear hK K
    try clear hb
    try simp only [Act.put, List.setIfInBounds_toArray, List.set_cons_zero, List.set_cons_succ]
    generalize hGWA33 : World.alloc wi (.cells #[.int .i64 0, .int .u64 0] 41) = WA33 at *
    clear hGWA33
    refine wpAnyH_ready (rs := [4, 10]) (by kernel_rfl) (by simp) ?_
    refine AllReadyH.cons (o := ⟨some 11, _, _, _, _, _⟩) rfl (fun K hK => ?_) ?_
    go_simp
    (first | ((with_reducible refine (M1.out _).mono ?_); rintro en wa ⟨rfl, hb⟩) | ((with_reducible refine (M2.out _).mono ?_); rintro en wb ⟨rfl, hb⟩))
    refine hK.out _ _ (hHeld44.next hb) (fun hHeld45 => ?_)
    replace hS6 := hS6.next hb
    clear hK K
    try clear hb
    try simp only [Act.put, List.setIfInBounds_toArray, List.set_cons_zero, List.set_cons_succ]
    refine wpAnyH_ready (rs := [9, 10]) (by kernel_rfl) (by simp) ?_
    refine AllReadyH.cons (o := ⟨some 16, _, _, _, _, _⟩) rfl (fun K hK => ?_) ?_
    go_simp
    (first | ((with_reducible refine (M1.out _).mono ?_); rintro en wa ⟨rfl, hb⟩) | ((with_reducible refine (M2.out _).mono ?_); rintro en wb ⟨rfl, hb⟩))
    refine hK.out _ _ (hHeld45.next hb) (fun hHeld46 => ?_)
    replace hS6 := hS6.next hb
    clear hK K
    try clear hb
    try simp only [Act.put, List.setIfInBounds_toArray, List.set_cons_zero, List.set_cons_succ]
    refine wpAnyH_ready (rs := [10]) (by kernel_rfl) (by simp) ?_
    refine AllReadyH.cons (o := ⟨some 5, _, _, _, _, _⟩) rfl (fun K hK => ?_) AllReadyH.nil
    have hne6_5 := hS6.2.1.1
    have lo5 := hHeld46.1.size
    obtain ⟨⟨a5_z0, a5_c0, a5_f0⟩, ⟨a5_z1, a5_c1, a5_f1⟩, ⟨a5_z2, a5_c2, a5_f2⟩, ⟨a5_z3, a5_c3, a5_f3⟩, ⟨a5_z4, a5_c4, a5_f4⟩, ⟨a5_z5, a5_c5, a5_f5⟩, _⟩ := hHeld46.2
    (try simp at lo5); (try simp at hne6_5); (try simp at a5_z0); (try simp at a5_z1); (try simp at a5_z2); (try simp at a5_z3); (try simp at a5_z4); (try simp at a5_z5)
    go_simp
    refine hK.out _ _ (by first | exact hHeld46.alloc _ | exact (hHeld46.alloc _).drew) (fun hHeld47 => ?_)
    first | replace hS6 := hS6.alloc2e hHeld47 | replace hS6 := hS6.alloc2 hHeld47
    first | have hS5 := newK2 hHeld47 | have hS5 := newK2d hHeld47
    clear hK K
    try clear hb
    try simp only [Act.put, List.setIfInBounds_toArray, List.set_cons_zero, List.set_cons_succ]
    generalize hGWA34 : World.alloc wb (.cells #[.int .i64 0, .int .u64 0] 41) = WA34 at *
    clear hGWA34
    refine wpAnyH_ready (rs := [12]) (by kernel_rfl) (by simp) ?_
    refine AllReadyH.cons (o := ⟨none, _, _, _, _, _⟩) rfl (fun K hK => ?_) AllReadyH.nil
    obtain ⟨⟨s5z0, s5c0, s5f0⟩, ⟨s5z1, s5c1, s5f1⟩, _⟩ := hS5.2
    go_simp
    refine hK.out _ _ (by (repeat (first | (with_reducible exact hHeld47) | (refine Keeps.set ?_ (by simp <;> omega) (by simp <;> omega) _)))) (fun hHeld48 => ?_)
    replace hS6 := hS6.mv2 hHeld48 (by first | omega | (simp <;> omega)) (by simp <;> omega)
    replace hS5 := hHeld48.add2 s5z0 s5c0 s5f0 s5c1 s5f1
    clear s5z0 s5c0 s5f0 s5z1 s5c1 s5f1
    clear hK K
    try clear hb
    try simp only [Act.put, List.setIfInBounds_toArray, List.set_cons_zero, List.set_cons_succ]
    generalize hGWA35 : World.setCell (World.setCell WA34 ⟨wb.heap.size, 0, none⟩ (.int .i64 x0)) ⟨wb.heap.size, 1, none⟩ (.int .u64 x1) = WA35 at *
    clear hGWA35
    refine wpAnyH_ready (rs := [13]) (by kernel_rfl) (by simp) ?_
    refine AllReadyH.cons (o := ⟨none, _, _, _, _, _⟩) rfl (fun K hK => ?_) AllReadyH.nil
    obtain ⟨⟨s6z0, s6c0, s6f0⟩, ⟨s6z1, s6c1, s6f1⟩, _⟩ := hS6.2
    go_simp
    refine hK.out _ _ (by (repeat (first | (with_reducible exact hHeld48) | (refine Keeps.set ?_ (by simp <;> omega) (by simp <;> omega) _)))) (fun hHeld49 => ?_)
    replace hS5 := hS5.mv2 hHeld49 (by first | omega | (simp <;> omega)) (by simp <;> omega)
    replace hS6 := hHeld49.add2 s6z0 s6c0 s6f0 s6c1 s6f1
    clear s6z0 s6c0 s6f0 s6z1 s6c1 s6f1
    clear hK K
    try clear hb
    try simp only [Act.put, List.setIfInBounds_toArray, List.set_cons_zero, List.set_cons_succ]
    generalize hGWA36 : World.setCell (World.setCell WA35 ⟨wi.heap.size, 0, none⟩ (.int .i64 y0)) ⟨wi.heap.size, 1, none⟩ (.int .u64 y1) = WA36 at *
    clear hGWA36
    refine wpAnyH_done (by kernel_rfl) ?_ _
    have hHeld := hHeld49
    rotate_left 1
    refine AllReadyH.cons (o := ⟨some 5, _, _, _, _, _⟩) rfl (fun K hK => ?_) ?_
    have hne6_5 := hS6.2.1.1
    have lo5 := hHeld45.1.size
    obtain ⟨⟨a5_z0, a5_c0, a5_f0⟩, ⟨a5_z1, a5_c1, a5_f1⟩, ⟨a5_z2, a5_c2, a5_f2⟩, ⟨a5_z3, a5_c3, a5_f3⟩, ⟨a5_z4, a5_c4, a5_f4⟩, ⟨a5_z5, a5_c5, a5_f5⟩, _⟩ := hHeld45.2
    (try simp at lo5); (try simp at hne6_5); (try simp at a5_z0); (try simp at a5_z1); (try simp at a5_z2); (try simp at a5_z3); (try simp at a5_z4); (try simp at a5_z5)
    go_simp
    refine hK.out _ _ (by first | exact hHeld45.alloc _ | exact (hHeld45.alloc _).drew) (fun hHeld50 => ?_)
    first | replace hS6 := hS6.alloc2e hHeld50 | replace hS6 := hS6.alloc2 hHeld50
    first | have hS5 := newK2 hHeld50 | have hS5 := newK2d hHeld50
    clear hK K
    try clear hb
    try simp only [Act.put, List.setIfInBounds_toArray, List.set_cons_zero, List.set_cons_succ]
    generalize hGWA37 : World.alloc wa (.cells #[.int .i64 0, .int .u64 0] 41) = WA37 at *
    clear hGWA37
    refine wpAnyH_ready (rs := [9]) (by kernel_rfl) (by simp) ?_
    refine AllReadyH.cons (o := ⟨some 16, _, _, _, _, _⟩) rfl (fun K hK => ?_) AllReadyH.nil
    go_simp
    (first | ((with_reducible refine (M1.out _).mono ?_); rintro en wa ⟨rfl, hb⟩) | ((with_reducible refine (M2.out _).mono ?_); rintro en wb ⟨rfl, hb⟩))
    refine hK.out _ _ (hHeld50.next hb) (fun hHeld51 => ?_)
    replace hS6 := hS6.next hb
    replace hS5 := hS5.next hb
    clear hK K
    try clear hb
    try simp only [Act.put, List.setIfInBounds_toArray, List.set_cons_zero, List.set_cons_succ]
    refine wpAnyH_ready (rs := [12]) (by kernel_rfl) (by simp) ?_
    refine AllReadyH.cons (o := ⟨none, _, _, _, _, _⟩) rfl (fun K hK => ?_) AllReadyH.nil
    obtain ⟨⟨s5z0, s5c0, s5f0⟩, ⟨s5z1, s5c1, s5f1⟩, _⟩ := hS5.2
    go_simp
    refine hK.out _ _ (by (repeat (first | (with_reducible exact hHeld51) | (refine Keeps.set ?_ (by simp <;> omega) (by simp <;> omega) _)))) (fun hHeld52 => ?_)
    replace hS6 := hS6.mv2 hHeld52 (by first | omega | (simp <;> omega)) (by simp <;> omega)
    replace hS5 := hHeld52.add2 s5z0 s5c0 s5f0 s5c1 s5f1
    clear s5z0 s5c0 s5f0 s5z1 s5c1 s5f1
    clear hK K
    try clear hb
    try simp only [Act.put, List.setIfInBounds_toArray, List.set_cons_zero, List.set_cons_succ]
    generalize hGWA38 : World.setCell (World.setCell wb ⟨wa.heap.size, 0, none⟩ (.int .i64 x0)) ⟨wa.heap.size, 1, none⟩ (.int .u64 x1) = WA38 at *
    clear hGWA38
    refine wpAnyH_ready (rs := [13]) (by kernel_rfl) (by simp) ?_
    refine AllReadyH.cons (o := ⟨none, _, _, _, _, _⟩) rfl (fun K hK => ?_) AllReadyH.nil
    obtain ⟨⟨s6z0, s6c0, s6f0⟩, ⟨s6z1, s6c1, s6f1⟩, _⟩ := hS6.2
    go_simp
    refine hK.out _ _ (by (repeat (first | (with_reducible exact hHeld52) | (refine Keeps.set ?_ (by simp <;> omega) (by simp <;> omega) _)))) (fun hHeld53 => ?_)
    replace hS5 := hS5.mv2 hHeld53 (by first | omega | (simp <;> omega)) (by simp <;> omega)
    replace hS6 := hHeld53.add2 s6z0 s6c0 s6f0 s6c1 s6f1
    clear s6z0 s6c0 s6f0 s6z1 s6c1 s6f1
    clear hK K
    try clear hb
    try simp only [Act.put, List.setIfInBounds_toArray, List.set_cons_zero, List.set_cons_succ]
    generalize hGWA39 : World.setCell (World.setCell WA38 ⟨wi.heap.size, 0, none⟩ (.int .i64 y0)) ⟨wi.heap.size, 1, none⟩ (.int .u64 y1) = WA39 at *
    clear hGWA39
    refine wpAnyH_done (by kernel_rfl) ?_ _
    have hHeld := hHeld53
    rotate_left 1
    exact AllReadyH.nil
    refine AllReadyH.cons (o := ⟨some 5, _, _, _, _, _⟩) rfl (fun K hK => ?_) ?_
    have hne6_5 := hS6.2.1.1
    have lo5 := hHeld44.1.size
    obtain ⟨⟨a5_z0, a5_c0, a5_f0⟩, ⟨a5_z1, a5_c1, a5_f1⟩, ⟨a5_z2, a5_c2, a5_f2⟩, ⟨a5_z3, a5_c3, a5_f3⟩, ⟨a5_z4, a5_c4, a5_f4⟩, ⟨a5_z5, a5_c5, a5_f5⟩, _⟩ := hHeld44.2
    (try simp at lo5); (try simp at hne6_5); (try simp at a5_z0); (try simp at a5_z1); (try simp at a5_z2); (try simp at a5_z3); (try simp at a5_z4); (try simp at a5_z5)
    go_simp
    refine hK.out _ _ (by first | exact hHeld44.alloc _ | exact (hHeld44.alloc _).drew) (fun hHeld54 => ?_)
    first | replace hS6 := hS6.alloc2e hHeld54 | replace hS6 := hS6.alloc2 hHeld54
    first | have hS5 := newK2 hHeld54 | have hS5 := newK2d hHeld54
    clear hK K
    try clear hb
    try simp only [Act.put, List.setIfInBounds_toArray, List.set_cons_zero, List.set_cons_succ]
    generalize hGWA40 : World.alloc WA33 (.cells #[.int .i64 0, .int .u64 0] 41) = WA40 at *
    clear hGWA40
    refine wpAnyH_ready (rs := [4]) (by kernel_rfl) (by simp) ?_
    refine AllReadyH.cons (o := ⟨some 11, _, _, _, _, _⟩) rfl (fun K hK => ?_) AllReadyH.nil
    go_simp
    (first | ((with_reducible refine (M1.out _).mono ?_); rintro en wa ⟨rfl, hb⟩) | ((with_reducible refine (M2.out _).mono ?_); rintro en wb ⟨rfl, hb⟩))
    refine hK.out _ _ (hHeld54.next hb) (fun hHeld55 => ?_)
    replace hS6 := hS6.next hb
    replace hS5 := hS5.next hb
    clear hK K
    try clear hb
    try simp only [Act.put, List.setIfInBounds_toArray, List.set_cons_zero, List.set_cons_succ]
    refine wpAnyH_ready (rs := [9]) (by kernel_rfl) (by simp) ?_
    refine AllReadyH.cons (o := ⟨some 16, _, _, _, _, _⟩) rfl (fun K hK => ?_) AllReadyH.nil
    go_simp
    (first | ((with_reducible refine (M1.out _).mono ?_); rintro en wa ⟨rfl, hb⟩) | ((with_reducible refine (M2.out _).mono ?_); rintro en wb ⟨rfl, hb⟩))
    refine hK.out _ _ (hHeld55.next hb) (fun hHeld56 => ?_)
    replace hS6 := hS6.next hb
    replace hS5 := hS5.next hb
    clear hK K
    try clear hb
    try simp only [Act.put, List.setIfInBounds_toArray, List.set_cons_zero, List.set_cons_succ]
    refine wpAnyH_ready (rs := [12]) (by kernel_rfl) (by simp) ?_
    refine AllReadyH.cons (o := ⟨none, _, _, _, _, _⟩) rfl (fun K hK => ?_) AllReadyH.nil
    obtain ⟨⟨s5z0, s5c0, s5f0⟩, ⟨s5z1, s5c1, s5f1⟩, _⟩ := hS5.2
    go_simp
    refine hK.out _ _ (by (repeat (first | (with_reducible exact hHeld56) | (refine Keeps.set ?_ (by simp <;> omega) (by simp <;> omega) _)))) (fun hHeld57 => ?_)
    replace hS6 := hS6.mv2 hHeld57 (by first | omega | (simp <;> omega)) (by simp <;> omega)
    replace hS5 := hHeld57.add2 s5z0 s5c0 s5f0 s5c1 s5f1
    clear s5z0 s5c0 s5f0 s5z1 s5c1 s5f1
    clear hK K
    try clear hb
    try simp only [Act.put, List.setIfInBounds_toArray, List.set_cons_zero, List.set_cons_succ]
    generalize hGWA41 : World.setCell (World.setCell wb ⟨WA33.heap.size, 0, none⟩ (.int .i64 x0)) ⟨WA33.heap.size, 1, none⟩ (.int .u64 x1) = WA41 at *
    clear hGWA41
    refine wpAnyH_ready (rs := [13]) (by kernel_rfl) (by simp) ?_
    refine AllReadyH.cons (o := ⟨none, _, _, _, _, _⟩) rfl (fun K hK => ?_) AllReadyH.nil
    obtain ⟨⟨s6z0, s6c0, s6f0⟩, ⟨s6z1, s6c1, s6f1⟩, _⟩ := hS6.2
    go_simp
    refine hK.out _ _ (by (repeat (first | (with_reducible exact hHeld57) | (refine Keeps.set ?_ (by simp <;> omega) (by simp <;> omega) _)))) (fun hHeld58 => ?_)
    replace hS5 := hS5.mv2 hHeld58 (by first | omega | (simp <;> omega)) (by simp <;> omega)
    replace hS6 := hHeld58.add2 s6z0 s6c0 s6f0 s6c1 s6f1
    clear s6z0 s6c0 s6f0 s6z1 s6c1 s6f1
    clear hK K
    try clear hb
    try simp only [Act.put, List.setIfInBounds_toArray, List.set_cons_zero, List.set_cons_succ]
    generalize hGWA42 : World.setCell (World.setCell WA41 ⟨wi.heap.size, 0, none⟩ (.int .i64 y0)) ⟨wi.heap.size, 1, none⟩ (.int .u64 y1) = WA42 at *
    clear hGWA42
    refine wpAnyH_done (by kernel_rfl) ?_ _
    have hHeld := hHeld58
    rotate_left 1
    exact AllReadyH.nil
    exact AllReadyH.nil
    all_goals
      go_wp2_with fail
      go_meet
      case rel => exact ⟨_, _, rfl, rfl, hS5.1, hS5.2.1, hS5.2.2.1, hS6.2.1, hS6.2.2.1, hS5.2.2.2.2.2.2.2.1, hS5.2.2.2.2.2.2.2.2.1, trivial⟩
  case rest =>
    clear hHs M1 M2
    obtain ⟨g, g', rfl, rfl, hHs⟩ := hcut
    obtain ⟨⟨kz0, kc0, kf0⟩, ⟨kz1, kc1, kf1⟩, ⟨kz2, kc2, kf2⟩, ⟨kz3, kc3, kf3⟩, ⟨kz4, kc4, kf4⟩, ⟨kz5, kc5, kf5⟩, _⟩ := hHs.2
    by_cases gm : 0 < m
    · have i1 : ¬ m < 0 := by omega
      rw [decide_eq_true gm, decide_eq_false i1, Bool.true_and, Bool.false_and, Bool.or_false] at FB2
      by_cases gc : ch < 0
      · rw [decide_eq_true gc] at FB2
        go_wp2_with fail
        refine (CM.out _).mono ?_
        rintro en w1 ⟨rfl, hb1⟩
        have hH := Lib.hid (hHs.next hb1)
        go_wp2_with fail
        go_ret
        exact ⟨by rw [FB2.out]; rfl, hH.out.1⟩
      · rw [decide_eq_false gc] at FB2
        have DD := Lib.hid (decide_eq_false gc)
        go_wp2_with fail
        refine (CM.out _).mono ?_
        rintro en w1 ⟨rfl, hb1⟩
        have hH := Lib.hid (hHs.next hb1)
        clear kz0 kc0 kf0 kz1 kc1 kf1 kz2 kc2 kf2 kz3 kc3 kf3 kz4 kc4 kf4 kz5 kc5 kf5 hHs
        obtain ⟨⟨kz0, kc0, kf0⟩, ⟨kz1, kc1, kf1⟩, ⟨kz2, kc2, kf2⟩, ⟨kz3, kc3, kf3⟩, ⟨kz4, kc4, kf4⟩, ⟨kz5, kc5, kf5⟩, _⟩ := hH.out.2
        go_wp2_with fail
        go_ret
        exact ⟨by rw [FB2.out]; show Ending.returned (Value.bool (decide (ch < 0))) = _; rw [DD.out], hH.out.1⟩
    · by_cases gm2 : m < 0
      · rw [decide_eq_false gm, decide_eq_true gm2, Bool.false_and, Bool.true_and, Bool.false_or] at FB2
        have FB3 := FB2.out
        rw [show decide (ch > 0) = decide (0 < ch) from rfl] at FB3
        by_cases gc : 0 < ch
        · rw [decide_eq_true gc] at FB3
          have FB4 := Lib.hid FB3
          clear FB3 FB2
          go_wp2_with fail
          refine (CM.out _).mono ?_
          rintro en w1 ⟨rfl, hb1⟩
          have hH := Lib.hid (hHs.next hb1)
          go_wp2_with fail
          go_ret
          exact ⟨by rw [FB4.out]; rfl, hH.out.1⟩
        · rw [decide_eq_false gc] at FB3
          have DD := Lib.hid (decide_eq_false gc)
          have FB4 := Lib.hid FB3
          clear FB3 FB2
          go_wp2_with fail
          refine (CM.out _).mono ?_
          rintro en w1 ⟨rfl, hb1⟩
          have hH := Lib.hid (hHs.next hb1)
          go_wp2_with fail
          go_ret
          exact ⟨by rw [FB4.out]; show Ending.returned (Value.bool (decide (0 < ch))) = _; rw [DD.out], hH.out.1⟩
      · rw [decide_eq_false gm, decide_eq_false gm2, Bool.false_and, Bool.false_and, Bool.or_false] at FB2
        go_wp2_with fail
        go_ret
        exact ⟨by rw [FB2.out]; rfl, hHs.1⟩
end Go.Proofs.Ytmdhgiaaofdjiaa.P10
