/-
  The law SlideAny. Conditions: those written at each fact.
-/
import Derived.Test.YtmdhgiaaofdjiaaSlQ
namespace Go.Proofs.Ytmdhgiaaofdjiaa.P10
open Go.RowKit Go.Shelf Go.Proofs.Ytmdhgiaaofdjiaa.P8

theorem all_times {l : List Bd} (h : RowOk l) : ∀ b ∈ l, BdOk b ∧ headT l ≤ b.t := by
  intro b hb
  obtain ⟨x, m, rfl⟩ := List.exists_cons_of_ne_nil (List.ne_nil_of_mem hb)
  refine ⟨h.1 b hb, ?_⟩
  show x.t ≤ b.t
  rcases List.mem_cons.1 hb with rfl | hb
  · exact Int.le_refl _
  · exact Int.le_of_lt ((List.pairwise_cons.1 h.2).1 b hb)
theorem cmp_up {x y : Int} (h : y ≤ x) : 0 ≤ cmpI x y := by
  have := cmpI_neg x y
  rw [decide_eq_false (show ¬ x < y by omega)] at this
  have := of_decide_eq_false this
  omega
theorem cmp_down {x y : Int} (h : x ≤ y) : cmpI x y ≤ 0 := by
  have := cmpI_pos x y
  rw [decide_eq_false (show ¬ y < x by omega)] at this
  have := of_decide_eq_false this
  omega
set_option maxRecDepth 100000 in
set_option maxHeartbeats 8000000 in
theorem lawAny_any (a r n d : Int) (ha : I64 a) (hr : I64 r) (hn : I64 n) (hd : I64 d) (l : List Bd) (hl : l.length ≤ 9223372036854775807) (v : Value) (w : World) (h : ReadsD w v l) : Calls Try.prog 3 #[v, lnV a r n d] w (Ret w (.bool true)) := by
  have WK := Lib.hid wakes_any
  have FW := Lib.hid (fun W (hb : Below w.heap.size w W) => (show Calls Try.prog 8 #[v, .int .i64 256] W (LaidD W (l.take 256)) from few_any l hl 256 (by decide) v W (h.below hb)))
  obtain ⟨A, c, rfl, _, _⟩ := h
  have hml : (l.take 256).length ≤ 256 := by rw [List.length_take]; omega
  have HI := Lib.hid (And.intro ha (And.intro hr (And.intro hn hd)))
  generalize l.take 256 = m at *
  clear ha hr hn hd
  go_enter Try.func3, Try.ntmps3
  have hH0 : Hid (Keeps w [(w.heap.size, 0, .int .i64 a), (w.heap.size, 1, .int .i64 r), (w.heap.size, 2, .int .i64 n), (w.heap.size, 3, .int .i64 d)] (w.alloc (.cells #[.int .i64 a, .int .i64 r, .int .i64 n, .int .i64 d] 24))) :=
    Lib.hid ⟨below_alloc w _, by simp [Cells, go_sem]⟩
  go_wp2_with fail
  refine (WK.out _).mono ?_
  rintro en w1 ⟨rfl, hb1⟩
  have h1 := hH0.out.next hb1
  have H1 := Lib.hid h1
  clear hH0 hb1 h1
  go_wp2_with fail
  refine (FW.out w1 H1.out.1).mono ?_
  rintro en w2 hh
  obtain ⟨hb2, A2, c2, rfl, hc2, hr2⟩ := hh.open
  have HB2 := Lib.hid (H1.out.next hb2)
  have HK2 := Lib.hid (show Keeps w2 [(w.heap.size, 0, .int .i64 a), (w.heap.size, 1, .int .i64 r), (w.heap.size, 2, .int .i64 n), (w.heap.size, 3, .int .i64 d)] w2 from ⟨Below.refl _ _, HB2.out.2⟩)
  have BC := Lib.hid (bcheck_any m (by omega) _ w2 hr2)
  clear hh hb2 WK FW H1
  cases gk : okD m
  · rw [gk] at BC
    simp only [Bool.false_eq_true, if_false] at BC
    clear gk hr2
    go_wp2_with fail
    refine BC.out.mono ?_
    rintro en w3 ⟨rfl, hb3⟩
    go_wp2_with fail
    go_ret
    exact ⟨rfl, under HB2.out.1 hb3⟩
  rw [gk] at BC
  simp only [if_true] at BC
  by_cases gd : d < 1
  · clear gk hr2
    go_wp2_with fail
    refine BC.out.mono ?_
    rintro en w3 ⟨rfl, hb3⟩
    have hHeld := HB2.out.next hb3
    obtain ⟨⟨kz0, kc0, kf0⟩, ⟨kz1, kc1, kf1⟩, ⟨kz2, kc2, kf2⟩, ⟨kz3, kc3, kf3⟩, _⟩ := hHeld.2
    go_wp2_with fail
    go_ret
    exact ⟨rfl, hHeld.1⟩
  have H2 := Lib.hid hr2
  have TR := Lib.hid (fun W (hb : Below w2.heap.size w2 W) => through_any a r n d HI.out.1 HI.out.2.1 HI.out.2.2.1 HI.out.2.2.2 (by omega) m (by omega) (all_times (row_ok gk)) _ W (hr2.below hb))
  have hd1 : 1 ≤ d := by omega
  have TOLD := Lib.hid (fun hT => any_told gk hd1 (a := a) (r := r) (n := n) hT)
  have i0 : ¬ d < 1 := gd
  clear gk hr2 gd
  go_wp2_with fail
  refine BC.out.mono ?_
  rintro en w3 ⟨rfl, hb3⟩
  have HK3 := Lib.hid (HK2.out.next hb3)
  have hHeld := HK3.out
  obtain ⟨⟨kz0, kc0, kf0⟩, ⟨kz1, kc1, kf1⟩, ⟨kz2, kc2, kf2⟩, ⟨kz3, kc3, kf3⟩, _⟩ := hHeld.2
  clear hHeld hb3 BC HK2
  cases gt : rayG a r n d m
  · rw [gt] at TR
    clear gt TOLD
    go_wp2_with fail
    refine (TR.out _ HK3.out.1).mono ?_
    rintro en w4 ⟨rfl, hb4⟩
    go_wp2_with fail
    go_ret
    exact ⟨rfl, under HB2.out.1 (HK3.out.next hb4).1⟩
  rw [gt] at TR
  obtain ⟨t1, t2, t3, t4, t5, t6, t7⟩ := TOLD.out gt
  clear gt TOLD
  go_wp2_with fail
  refine (TR.out _ HK3.out.1).mono ?_
  rintro en w4 ⟨rfl, hb4⟩
  have HK4 := Lib.hid (HK3.out.next hb4)
  clear kz0 kc0 kf0 kz1 kc1 kf1 kz2 kc2 kf2 kz3 kc3 kf3 TR hb4 HK3
  have FA := Lib.hid (fun W (hb : Below w2.heap.size w2 W) => fit_any m (by omega) _ W (H2.out.below hb))
  have SA := Lib.hid (fun W (hb : Below w2.heap.size w2 W) => slopes_any m (by omega) _ W (H2.out.below hb))
  have TH := Lib.hid (fun W (hb : Below w2.heap.size w2 W) => thr_any (fitA m) (fitR m) (fitN m) (fitD m) m (by omega) _ W (H2.out.below hb))
  obtain ⟨y1, y2⟩ := slope_i64 t3
  have FL := Lib.hid (fun W => flatter_any a r n d (fitN m) (fitD m) HI.out.2.2.1 HI.out.2.2.2 y1 y2 W)
  rw [t1] at FA SA
  rw [t2] at TH
  rw [t4] at FL
  clear t1 t2 t3 t4 y1 y2
  obtain ⟨y1, y2⟩ := slope_i64 t5
  obtain ⟨y3, y4⟩ := slope_i64 t6
  generalize fitA m = x0 at *
  generalize fitR m = x1 at *
  generalize fitN m = x2 at *
  generalize fitD m = x3 at *
  generalize sloS m = s at *
  obtain ⟨p1, p2, p3, p4⟩ := s
  simp only at SA y1 y2 y3 y4 t7
  have M1 := Lib.hid (fun W => mul_any n p2 HI.out.2.2.1 y2 W)
  have M2 := Lib.hid (fun W => mul_any p1 d y1 HI.out.2.2.2 W)
  have M3 := Lib.hid (fun W => mul_any n p4 HI.out.2.2.1 y4 W)
  have M4 := Lib.hid (fun W => mul_any p3 d y3 HI.out.2.2.2 W)
  have C1 := Lib.hid (fun W => compare_fits (n * p2) (p1 * d) (mul_fits HI.out.2.2.1 y2) (mul_fits y1 HI.out.2.2.2) W)
  have C2 := Lib.hid (fun W => compare_fits (n * p4) (p3 * d) (mul_fits HI.out.2.2.1 y4) (mul_fits y3 HI.out.2.2.2) W)
  have TE : Hid (m.length = 1 ∨ 0 ≤ cmpI (n * p2) (p1 * d) ∧ cmpI (n * p4) (p3 * d) ≤ 0) := Lib.hid (t7.imp id (fun h => ⟨cmp_up h.1, cmp_down h.2⟩))
  clear t5 t6 t7 y1 y2 y3 y4
  generalize cmpI (n * p2) (p1 * d) = c1 at *
  generalize cmpI (n * p4) (p3 * d) = cc2 at *
  generalize rhi (n * p2) = j0 at *
  generalize rlo (n * p2) = j1 at *
  generalize rhi (p1 * d) = j2 at *
  generalize rlo (p1 * d) = j3 at *
  generalize rhi (n * p4) = o0 at *
  generalize rlo (n * p4) = o1 at *
  generalize rhi (p3 * d) = o2 at *
  generalize rlo (p3 * d) = o3 at *
  go_wp2_with fail
  refine (FA.out _ HK4.out.1).mono ?_
  rintro en w5 ⟨rfl, hb5⟩
  have h5 := (HK4.out.next hb5).alloc (.cells #[.int .i64 x0, .int .i64 x1, .int .i64 x2, .int .i64 x3] 30)
  have HK5 := Lib.hid (Keeps.app (newK4 h5) h5)
  clear h5 hb5 FA HK4
  go_wp2_with fail
  refine (SA.out _ HK5.out.1).mono ?_
  rintro en w6 ⟨rfl, hb6⟩
  have h6 := ((HK5.out.next hb6).alloc (.cells #[.int .i64 p1, .int .i64 p2] 34)).alloc (.cells #[.int .i64 p3, .int .i64 p4] 34)
  have HK6 := Lib.hid (Keeps.app (l := [(w6.heap.size, 0, .int .i64 p1), (w6.heap.size, 1, .int .i64 p2), (w6.heap.size + 1, 0, .int .i64 p3), (w6.heap.size + 1, 1, .int .i64 p4)]) ⟨h6.1, by simp [Cells, go_sem]⟩ h6)
  clear h6 hb6 SA HK5
  go_upto_region 8 with (fail)
  have hHs : Keeps w2 [(w6.heap.size, 0, .int .i64 p1), (w6.heap.size, 1, .int .i64 p2), (w6.heap.size + 1, 0, .int .i64 p3), (w6.heap.size + 1, 1, .int .i64 p4), (w5.heap.size, 0, .int .i64 x0), (w5.heap.size, 1, .int .i64 x1), (w5.heap.size, 2, .int .i64 x2), (w5.heap.size, 3, .int .i64 x3), (w.heap.size, 0, .int .i64 a), (w.heap.size, 1, .int .i64 r), (w.heap.size, 2, .int .i64 n), (w.heap.size, 3, .int .i64 d)] ((w6.alloc (.cells #[.int .i64 p1, .int .i64 p2] 34)).alloc (.cells #[.int .i64 p3, .int .i64 p4] 34)) := HK6.out
  generalize (w6.alloc (.cells #[.int .i64 p1, .int .i64 p2] 34)).alloc (.cells #[.int .i64 p3, .int .i64 p4] 34) = wi at hHs ⊢
  generalize w6.heap.size = ga at *
  generalize w5.heap.size = gz at *
  clear HK6
  have HK7 := Lib.hid hHs
  obtain ⟨⟨kz0, kc0, kf0⟩, ⟨kz1, kc1, kf1⟩, ⟨kz2, kc2, kf2⟩, ⟨kz3, kc3, kf3⟩, ⟨kz4, kc4, kf4⟩, ⟨kz5, kc5, kf5⟩, ⟨kz6, kc6, kf6⟩, ⟨kz7, kc7, kf7⟩, ⟨kz8, kc8, kf8⟩, ⟨kz9, kc9, kf9⟩, ⟨kz10, kc10, kf10⟩, ⟨kz11, kc11, kf11⟩, _⟩ := hHs.2
  clear hHs
  go_wp2_with fail
  refine (TH.out _ HK7.out.1).mono ?_
  rintro en w7 ⟨rfl, hb7⟩
  have HK8 := Lib.hid (HK7.out.next hb7)
  clear kz0 kc0 kf0 kz1 kc1 kf1 kz2 kc2 kf2 kz3 kc3 kf3 kz4 kc4 kf4 kz5 kc5 kf5 kz6 kc6 kf6 kz7 kc7 kf7 kz8 kc8 kf8 kz9 kc9 kf9 kz10 kc10 kf10 kz11 kc11 kf11 hb7 TH HK7
  obtain ⟨⟨kz0, kc0, kf0⟩, ⟨kz1, kc1, kf1⟩, ⟨kz2, kc2, kf2⟩, ⟨kz3, kc3, kf3⟩, ⟨kz4, kc4, kf4⟩, ⟨kz5, kc5, kf5⟩, ⟨kz6, kc6, kf6⟩, ⟨kz7, kc7, kf7⟩, ⟨kz8, kc8, kf8⟩, ⟨kz9, kc9, kf9⟩, ⟨kz10, kc10, kf10⟩, ⟨kz11, kc11, kf11⟩, _⟩ := HK8.out.2
  go_wp2_with fail
  refine (FL.out _).mono ?_
  rintro en w8 ⟨rfl, hb8⟩
  have HK9 := Lib.hid (HK8.out.next hb8)
  clear kz0 kc0 kf0 kz1 kc1 kf1 kz2 kc2 kf2 kz3 kc3 kf3 kz4 kc4 kf4 kz5 kc5 kf5 kz6 kc6 kf6 kz7 kc7 kf7 kz8 kc8 kf8 kz9 kc9 kf9 kz10 kc10 kf10 kz11 kc11 kf11 hb8 FL HK8
  go_upto_region 10 with (fail)
  have hHs := HK9.out
  clear HK9
  go_cut [11, 12] (fun s5 s6 wx => ∃ g g' : Nat, s5 = .pointer (some ⟨g, 0, none⟩) ∧ s6 = .pointer (some ⟨g', 0, none⟩) ∧ Keeps w2 [(g, 0, .int .i64 j0), (g, 1, .int .u64 j1), (g', 0, .int .i64 j2), (g', 1, .int .u64 j3), (ga + 1, 0, .int .i64 p3), (ga + 1, 1, .int .i64 p4), (w.heap.size, 2, .int .i64 n), (w.heap.size, 3, .int .i64 d)] wx)
  case first =>
    refine region_keeps (w0 := w2) (L := [(ga, 0, .int .i64 p1), (ga, 1, .int .i64 p2), (ga + 1, 0, .int .i64 p3), (ga + 1, 1, .int .i64 p4), (gz, 0, .int .i64 x0), (gz, 1, .int .i64 x1), (gz, 2, .int .i64 x2), (gz, 3, .int .i64 x3), (w.heap.size, 0, .int .i64 a), (w.heap.size, 1, .int .i64 r), (w.heap.size, 2, .int .i64 n), (w.heap.size, 3, .int .i64 d)]) (by kernel_rfl) hHs (fun hHeld0 => ?_)
    refine wpAnyH_take (i := 0) (oi := ⟨some 65, _, _, _, _, _⟩) (v := ?_) rfl (by kernel_rfl) (by kernel_rfl) (by kernel_rfl) (fun _ _ _ h => h) (Or.inl ⟨by rfl, ?_⟩) (by assumption) ?_
    rotate_left
    · intro wq hSw; go_simp; (try with_reducible rfl)
    try simp only [Act.put, List.setIfInBounds_toArray, List.set_cons_zero, List.set_cons_succ]
    refine wpAnyH_take (i := 1) (oi := ⟨some 66, _, _, _, _, _⟩) (v := ?_) rfl (by kernel_rfl) (by kernel_rfl) (by kernel_rfl) (fun _ _ _ h => h) (Or.inl ⟨by rfl, ?_⟩) (by assumption) ?_
    rotate_left
    · intro wq hSw; obtain ⟨⟨qz0, qc0, qf0⟩, ⟨qz1, qc1, qf1⟩, ⟨qz2, qc2, qf2⟩, ⟨qz3, qc3, qf3⟩, ⟨qz4, qc4, qf4⟩, ⟨qz5, qc5, qf5⟩, ⟨qz6, qc6, qf6⟩, ⟨qz7, qc7, qf7⟩, ⟨qz8, qc8, qf8⟩, ⟨qz9, qc9, qf9⟩, ⟨qz10, qc10, qf10⟩, ⟨qz11, qc11, qf11⟩, _⟩ := hSw.2; go_simp; (try with_reducible rfl)
    try simp only [Act.put, List.setIfInBounds_toArray, List.set_cons_zero, List.set_cons_succ]
    refine wpAnyH_take (i := 2) (oi := ⟨some 67, _, _, _, _, _⟩) (v := ?_) rfl (by kernel_rfl) (by kernel_rfl) (by kernel_rfl) (fun _ _ _ h => h) (Or.inl ⟨by rfl, ?_⟩) (by assumption) ?_
    rotate_left
    · intro wq hSw; go_simp; (try with_reducible rfl)
    try simp only [Act.put, List.setIfInBounds_toArray, List.set_cons_zero, List.set_cons_succ]
    refine wpAnyH_take (i := 3) (oi := ⟨some 68, _, _, _, _, _⟩) (v := ?_) rfl (by kernel_rfl) (by kernel_rfl) (by kernel_rfl) (fun _ _ _ h => h) (Or.inl ⟨by rfl, ?_⟩) (by assumption) ?_
    rotate_left
    · intro wq hSw; obtain ⟨⟨qz0, qc0, qf0⟩, ⟨qz1, qc1, qf1⟩, ⟨qz2, qc2, qf2⟩, ⟨qz3, qc3, qf3⟩, ⟨qz4, qc4, qf4⟩, ⟨qz5, qc5, qf5⟩, ⟨qz6, qc6, qf6⟩, ⟨qz7, qc7, qf7⟩, ⟨qz8, qc8, qf8⟩, ⟨qz9, qc9, qf9⟩, ⟨qz10, qc10, qf10⟩, ⟨qz11, qc11, qf11⟩, _⟩ := hSw.2; go_simp; (try with_reducible rfl)
    try simp only [Act.put, List.setIfInBounds_toArray, List.set_cons_zero, List.set_cons_succ]
    refine wpAnyH_take (i := 5) (oi := ⟨some 70, _, _, _, _, _⟩) (v := ?_) rfl (by kernel_rfl) (by kernel_rfl) (by kernel_rfl) (fun _ _ _ h => h) (Or.inl ⟨by rfl, ?_⟩) (by assumption) ?_
    rotate_left
    · intro wq hSw; go_simp; (try with_reducible rfl)
    try simp only [Act.put, List.setIfInBounds_toArray, List.set_cons_zero, List.set_cons_succ]
    refine wpAnyH_take (i := 6) (oi := ⟨some 71, _, _, _, _, _⟩) (v := ?_) rfl (by kernel_rfl) (by kernel_rfl) (by kernel_rfl) (fun _ _ _ h => h) (Or.inl ⟨by rfl, ?_⟩) (by assumption) ?_
    rotate_left
    · intro wq hSw; obtain ⟨⟨qz0, qc0, qf0⟩, ⟨qz1, qc1, qf1⟩, ⟨qz2, qc2, qf2⟩, ⟨qz3, qc3, qf3⟩, ⟨qz4, qc4, qf4⟩, ⟨qz5, qc5, qf5⟩, ⟨qz6, qc6, qf6⟩, ⟨qz7, qc7, qf7⟩, ⟨qz8, qc8, qf8⟩, ⟨qz9, qc9, qf9⟩, ⟨qz10, qc10, qf10⟩, ⟨qz11, qc11, qf11⟩, _⟩ := hSw.2; go_simp; (try with_reducible rfl)
    try simp only [Act.put, List.setIfInBounds_toArray, List.set_cons_zero, List.set_cons_succ]
    refine wpAnyH_take (i := 7) (oi := ⟨some 72, _, _, _, _, _⟩) (v := ?_) rfl (by kernel_rfl) (by kernel_rfl) (by kernel_rfl) (fun _ _ _ h => h) (Or.inl ⟨by rfl, ?_⟩) (by assumption) ?_
    rotate_left
    · intro wq hSw; go_simp; (try with_reducible rfl)
    try simp only [Act.put, List.setIfInBounds_toArray, List.set_cons_zero, List.set_cons_succ]
    refine wpAnyH_take (i := 8) (oi := ⟨some 73, _, _, _, _, _⟩) (v := ?_) rfl (by kernel_rfl) (by kernel_rfl) (by kernel_rfl) (fun _ _ _ h => h) (Or.inl ⟨by rfl, ?_⟩) (by assumption) ?_
    rotate_left
    · intro wq hSw; obtain ⟨⟨qz0, qc0, qf0⟩, ⟨qz1, qc1, qf1⟩, ⟨qz2, qc2, qf2⟩, ⟨qz3, qc3, qf3⟩, ⟨qz4, qc4, qf4⟩, ⟨qz5, qc5, qf5⟩, ⟨qz6, qc6, qf6⟩, ⟨qz7, qc7, qf7⟩, ⟨qz8, qc8, qf8⟩, ⟨qz9, qc9, qf9⟩, ⟨qz10, qc10, qf10⟩, ⟨qz11, qc11, qf11⟩, _⟩ := hSw.2; go_simp; (try with_reducible rfl)
    try simp only [Act.put, List.setIfInBounds_toArray, List.set_cons_zero, List.set_cons_succ]
    refine wpAnyH_ready (rs := [4, 10, 11]) (by kernel_rfl) (by simp) ?_
    refine AllReadyH.cons (o := ⟨some 69, _, _, _, _, _⟩) rfl (fun K hK => ?_) ?_
    go_simp
    (first | ((with_reducible refine (M1.out _).mono ?_); rintro en wa ⟨rfl, hb⟩) | ((with_reducible refine (M2.out _).mono ?_); rintro en wb ⟨rfl, hb⟩))
    refine hK.out _ _ (hHeld0.next hb) (fun hHeld1 => ?_)
    clear hK K
    try clear hb
    try simp only [Act.put, List.setIfInBounds_toArray, List.set_cons_zero, List.set_cons_succ]
    refine wpAnyH_ready (rs := [9, 10, 11]) (by kernel_rfl) (by simp) ?_
    refine AllReadyH.cons (o := ⟨some 74, _, _, _, _, _⟩) rfl (fun K hK => ?_) ?_
    go_simp
    (first | ((with_reducible refine (M1.out _).mono ?_); rintro en wa ⟨rfl, hb⟩) | ((with_reducible refine (M2.out _).mono ?_); rintro en wb ⟨rfl, hb⟩))
    refine hK.out _ _ (hHeld1.next hb) (fun hHeld2 => ?_)
    clear hK K
    try clear hb
    try simp only [Act.put, List.setIfInBounds_toArray, List.set_cons_zero, List.set_cons_succ]
    refine wpAnyH_ready (rs := [10, 11]) (by kernel_rfl) (by simp) ?_
    refine AllReadyH.cons (o := ⟨some 11, _, _, _, _, _⟩) rfl (fun K hK => ?_) ?_
    have lo11 := hHeld2.1.size
    obtain ⟨⟨a11_z0, a11_c0, a11_f0⟩, ⟨a11_z1, a11_c1, a11_f1⟩, ⟨a11_z2, a11_c2, a11_f2⟩, ⟨a11_z3, a11_c3, a11_f3⟩, ⟨a11_z4, a11_c4, a11_f4⟩, ⟨a11_z5, a11_c5, a11_f5⟩, ⟨a11_z6, a11_c6, a11_f6⟩, ⟨a11_z7, a11_c7, a11_f7⟩, ⟨a11_z8, a11_c8, a11_f8⟩, ⟨a11_z9, a11_c9, a11_f9⟩, ⟨a11_z10, a11_c10, a11_f10⟩, ⟨a11_z11, a11_c11, a11_f11⟩, _⟩ := hHeld2.2
    (try simp at lo11); (try simp at a11_z0); (try simp at a11_z1); (try simp at a11_z2); (try simp at a11_z3); (try simp at a11_z4); (try simp at a11_z5); (try simp at a11_z6); (try simp at a11_z7); (try simp at a11_z8); (try simp at a11_z9); (try simp at a11_z10); (try simp at a11_z11)
    go_simp
    refine hK.out _ _ (by first | exact hHeld2.alloc _ | exact (hHeld2.alloc _).drew) (fun hHeld3 => ?_)
    first | have hS11 := newK2 hHeld3 | have hS11 := newK2d hHeld3
    clear hK K
    try clear hb
    try simp only [Act.put, List.setIfInBounds_toArray, List.set_cons_zero, List.set_cons_succ]
    generalize hGWA1 : World.alloc wb (.cells #[.int .i64 0, .int .u64 0] 41) = WA1 at *
    clear hGWA1
    refine wpAnyH_ready (rs := [11]) (by kernel_rfl) (by simp) ?_
    refine AllReadyH.cons (o := ⟨some 12, _, _, _, _, _⟩) rfl (fun K hK => ?_) AllReadyH.nil
    have hne11_12 := hS11.2.1.1
    have lo12 := hHeld3.1.size
    obtain ⟨⟨a12_z0, a12_c0, a12_f0⟩, ⟨a12_z1, a12_c1, a12_f1⟩, ⟨a12_z2, a12_c2, a12_f2⟩, ⟨a12_z3, a12_c3, a12_f3⟩, ⟨a12_z4, a12_c4, a12_f4⟩, ⟨a12_z5, a12_c5, a12_f5⟩, ⟨a12_z6, a12_c6, a12_f6⟩, ⟨a12_z7, a12_c7, a12_f7⟩, ⟨a12_z8, a12_c8, a12_f8⟩, ⟨a12_z9, a12_c9, a12_f9⟩, ⟨a12_z10, a12_c10, a12_f10⟩, ⟨a12_z11, a12_c11, a12_f11⟩, _⟩ := hHeld3.2
    (try simp at lo12); (try simp at hne11_12); (try simp at a12_z0); (try simp at a12_z1); (try simp at a12_z2); (try simp at a12_z3); (try simp at a12_z4); (try simp at a12_z5); (try simp at a12_z6); (try simp at a12_z7); (try simp at a12_z8); (try simp at a12_z9); (try simp at a12_z10); (try simp at a12_z11)
    go_simp
    refine hK.out _ _ (by first | exact hHeld3.alloc _ | exact (hHeld3.alloc _).drew) (fun hHeld4 => ?_)
    first | replace hS11 := hS11.alloc2e hHeld4 | replace hS11 := hS11.alloc2 hHeld4
    first | have hS12 := newK2 hHeld4 | have hS12 := newK2d hHeld4
    clear hK K
    try clear hb
    try simp only [Act.put, List.setIfInBounds_toArray, List.set_cons_zero, List.set_cons_succ]
    generalize hGWA2 : World.alloc WA1 (.cells #[.int .i64 0, .int .u64 0] 41) = WA2 at *
    clear hGWA2
    refine wpAnyH_ready (rs := [12]) (by kernel_rfl) (by simp) ?_
    refine AllReadyH.cons (o := ⟨none, _, _, _, _, _⟩) rfl (fun K hK => ?_) AllReadyH.nil
    obtain ⟨⟨s11z0, s11c0, s11f0⟩, ⟨s11z1, s11c1, s11f1⟩, _⟩ := hS11.2
    go_simp
    refine hK.out _ _ (by (repeat (first | (with_reducible exact hHeld4) | (refine Keeps.set ?_ (by simp <;> omega) (by simp <;> omega) _)))) (fun hHeld5 => ?_)
    replace hS12 := hS12.mv2 hHeld5 (by first | omega | (simp <;> omega)) (by simp <;> omega)
    replace hS11 := hHeld5.add2 s11z0 s11c0 s11f0 s11c1 s11f1
    clear s11z0 s11c0 s11f0 s11z1 s11c1 s11f1
    clear hK K
    try clear hb
    try simp only [Act.put, List.setIfInBounds_toArray, List.set_cons_zero, List.set_cons_succ]
    generalize hGWA3 : World.setCell (World.setCell WA2 ⟨wb.heap.size, 0, none⟩ (.int .i64 j0)) ⟨wb.heap.size, 1, none⟩ (.int .u64 j1) = WA3 at *
    clear hGWA3
    refine wpAnyH_ready (rs := [13]) (by kernel_rfl) (by simp) ?_
    refine AllReadyH.cons (o := ⟨none, _, _, _, _, _⟩) rfl (fun K hK => ?_) AllReadyH.nil
    obtain ⟨⟨s12z0, s12c0, s12f0⟩, ⟨s12z1, s12c1, s12f1⟩, _⟩ := hS12.2
    go_simp
    refine hK.out _ _ (by (repeat (first | (with_reducible exact hHeld5) | (refine Keeps.set ?_ (by simp <;> omega) (by simp <;> omega) _)))) (fun hHeld6 => ?_)
    replace hS11 := hS11.mv2 hHeld6 (by first | omega | (simp <;> omega)) (by simp <;> omega)
    replace hS12 := hHeld6.add2 s12z0 s12c0 s12f0 s12c1 s12f1
    clear s12z0 s12c0 s12f0 s12z1 s12c1 s12f1
    clear hK K
    try clear hb
    try simp only [Act.put, List.setIfInBounds_toArray, List.set_cons_zero, List.set_cons_succ]
    generalize hGWA4 : World.setCell (World.setCell WA3 ⟨WA1.heap.size, 0, none⟩ (.int .i64 j2)) ⟨WA1.heap.size, 1, none⟩ (.int .u64 j3) = WA4 at *
    clear hGWA4
    refine wpAnyH_done (by kernel_rfl) ?_ _
    have hHeld := hHeld6
    rotate_left 1
    refine AllReadyH.cons (o := ⟨some 12, _, _, _, _, _⟩) rfl (fun K hK => ?_) ?_
    have lo12 := hHeld2.1.size
    obtain ⟨⟨a12_z0, a12_c0, a12_f0⟩, ⟨a12_z1, a12_c1, a12_f1⟩, ⟨a12_z2, a12_c2, a12_f2⟩, ⟨a12_z3, a12_c3, a12_f3⟩, ⟨a12_z4, a12_c4, a12_f4⟩, ⟨a12_z5, a12_c5, a12_f5⟩, ⟨a12_z6, a12_c6, a12_f6⟩, ⟨a12_z7, a12_c7, a12_f7⟩, ⟨a12_z8, a12_c8, a12_f8⟩, ⟨a12_z9, a12_c9, a12_f9⟩, ⟨a12_z10, a12_c10, a12_f10⟩, ⟨a12_z11, a12_c11, a12_f11⟩, _⟩ := hHeld2.2
    (try simp at lo12); (try simp at a12_z0); (try simp at a12_z1); (try simp at a12_z2); (try simp at a12_z3); (try simp at a12_z4); (try simp at a12_z5); (try simp at a12_z6); (try simp at a12_z7); (try simp at a12_z8); (try simp at a12_z9); (try simp at a12_z10); (try simp at a12_z11)
    go_simp
    refine hK.out _ _ (by first | exact hHeld2.alloc _ | exact (hHeld2.alloc _).drew) (fun hHeld7 => ?_)
    first | have hS12 := newK2 hHeld7 | have hS12 := newK2d hHeld7
    clear hK K
    try clear hb
    try simp only [Act.put, List.setIfInBounds_toArray, List.set_cons_zero, List.set_cons_succ]
    generalize hGWA5 : World.alloc wb (.cells #[.int .i64 0, .int .u64 0] 41) = WA5 at *
    clear hGWA5
    refine wpAnyH_ready (rs := [10]) (by kernel_rfl) (by simp) ?_
    refine AllReadyH.cons (o := ⟨some 11, _, _, _, _, _⟩) rfl (fun K hK => ?_) AllReadyH.nil
    have hne12_11 := hS12.2.1.1
    have lo11 := hHeld7.1.size
    obtain ⟨⟨a11_z0, a11_c0, a11_f0⟩, ⟨a11_z1, a11_c1, a11_f1⟩, ⟨a11_z2, a11_c2, a11_f2⟩, ⟨a11_z3, a11_c3, a11_f3⟩, ⟨a11_z4, a11_c4, a11_f4⟩, ⟨a11_z5, a11_c5, a11_f5⟩, ⟨a11_z6, a11_c6, a11_f6⟩, ⟨a11_z7, a11_c7, a11_f7⟩, ⟨a11_z8, a11_c8, a11_f8⟩, ⟨a11_z9, a11_c9, a11_f9⟩, ⟨a11_z10, a11_c10, a11_f10⟩, ⟨a11_z11, a11_c11, a11_f11⟩, _⟩ := hHeld7.2
    (try simp at lo11); (try simp at hne12_11); (try simp at a11_z0); (try simp at a11_z1); (try simp at a11_z2); (try simp at a11_z3); (try simp at a11_z4); (try simp at a11_z5); (try simp at a11_z6); (try simp at a11_z7); (try simp at a11_z8); (try simp at a11_z9); (try simp at a11_z10); (try simp at a11_z11)
    go_simp
    refine hK.out _ _ (by first | exact hHeld7.alloc _ | exact (hHeld7.alloc _).drew) (fun hHeld8 => ?_)
    first | replace hS12 := hS12.alloc2e hHeld8 | replace hS12 := hS12.alloc2 hHeld8
    first | have hS11 := newK2 hHeld8 | have hS11 := newK2d hHeld8
    clear hK K
    try clear hb
    try simp only [Act.put, List.setIfInBounds_toArray, List.set_cons_zero, List.set_cons_succ]
    generalize hGWA6 : World.alloc WA5 (.cells #[.int .i64 0, .int .u64 0] 41) = WA6 at *
    clear hGWA6
    refine wpAnyH_ready (rs := [12]) (by kernel_rfl) (by simp) ?_
    refine AllReadyH.cons (o := ⟨none, _, _, _, _, _⟩) rfl (fun K hK => ?_) AllReadyH.nil
    obtain ⟨⟨s11z0, s11c0, s11f0⟩, ⟨s11z1, s11c1, s11f1⟩, _⟩ := hS11.2
    go_simp
    refine hK.out _ _ (by (repeat (first | (with_reducible exact hHeld8) | (refine Keeps.set ?_ (by simp <;> omega) (by simp <;> omega) _)))) (fun hHeld9 => ?_)
    replace hS12 := hS12.mv2 hHeld9 (by first | omega | (simp <;> omega)) (by simp <;> omega)
    replace hS11 := hHeld9.add2 s11z0 s11c0 s11f0 s11c1 s11f1
    clear s11z0 s11c0 s11f0 s11z1 s11c1 s11f1
    clear hK K
    try clear hb
    try simp only [Act.put, List.setIfInBounds_toArray, List.set_cons_zero, List.set_cons_succ]
    generalize hGWA7 : World.setCell (World.setCell WA6 ⟨WA5.heap.size, 0, none⟩ (.int .i64 j0)) ⟨WA5.heap.size, 1, none⟩ (.int .u64 j1) = WA7 at *
    clear hGWA7
    refine wpAnyH_ready (rs := [13]) (by kernel_rfl) (by simp) ?_
    refine AllReadyH.cons (o := ⟨none, _, _, _, _, _⟩) rfl (fun K hK => ?_) AllReadyH.nil
    obtain ⟨⟨s12z0, s12c0, s12f0⟩, ⟨s12z1, s12c1, s12f1⟩, _⟩ := hS12.2
    go_simp
    refine hK.out _ _ (by (repeat (first | (with_reducible exact hHeld9) | (refine Keeps.set ?_ (by simp <;> omega) (by simp <;> omega) _)))) (fun hHeld10 => ?_)
    replace hS11 := hS11.mv2 hHeld10 (by first | omega | (simp <;> omega)) (by simp <;> omega)
    replace hS12 := hHeld10.add2 s12z0 s12c0 s12f0 s12c1 s12f1
    clear s12z0 s12c0 s12f0 s12z1 s12c1 s12f1
    clear hK K
    try clear hb
    try simp only [Act.put, List.setIfInBounds_toArray, List.set_cons_zero, List.set_cons_succ]
    generalize hGWA8 : World.setCell (World.setCell WA7 ⟨wb.heap.size, 0, none⟩ (.int .i64 j2)) ⟨wb.heap.size, 1, none⟩ (.int .u64 j3) = WA8 at *
    clear hGWA8
    refine wpAnyH_done (by kernel_rfl) ?_ _
    have hHeld := hHeld10
    rotate_left 1
    exact AllReadyH.nil
    refine AllReadyH.cons (o := ⟨some 11, _, _, _, _, _⟩) rfl (fun K hK => ?_) ?_
    have lo11 := hHeld1.1.size
    obtain ⟨⟨a11_z0, a11_c0, a11_f0⟩, ⟨a11_z1, a11_c1, a11_f1⟩, ⟨a11_z2, a11_c2, a11_f2⟩, ⟨a11_z3, a11_c3, a11_f3⟩, ⟨a11_z4, a11_c4, a11_f4⟩, ⟨a11_z5, a11_c5, a11_f5⟩, ⟨a11_z6, a11_c6, a11_f6⟩, ⟨a11_z7, a11_c7, a11_f7⟩, ⟨a11_z8, a11_c8, a11_f8⟩, ⟨a11_z9, a11_c9, a11_f9⟩, ⟨a11_z10, a11_c10, a11_f10⟩, ⟨a11_z11, a11_c11, a11_f11⟩, _⟩ := hHeld1.2
    (try simp at lo11); (try simp at a11_z0); (try simp at a11_z1); (try simp at a11_z2); (try simp at a11_z3); (try simp at a11_z4); (try simp at a11_z5); (try simp at a11_z6); (try simp at a11_z7); (try simp at a11_z8); (try simp at a11_z9); (try simp at a11_z10); (try simp at a11_z11)
    go_simp
    refine hK.out _ _ (by first | exact hHeld1.alloc _ | exact (hHeld1.alloc _).drew) (fun hHeld11 => ?_)
    first | have hS11 := newK2 hHeld11 | have hS11 := newK2d hHeld11
    clear hK K
    try clear hb
    try simp only [Act.put, List.setIfInBounds_toArray, List.set_cons_zero, List.set_cons_succ]
    generalize hGWA9 : World.alloc wa (.cells #[.int .i64 0, .int .u64 0] 41) = WA9 at *
    clear hGWA9
    refine wpAnyH_ready (rs := [9, 11]) (by kernel_rfl) (by simp) ?_
    refine AllReadyH.cons (o := ⟨some 74, _, _, _, _, _⟩) rfl (fun K hK => ?_) ?_
    go_simp
    (first | ((with_reducible refine (M1.out _).mono ?_); rintro en wa ⟨rfl, hb⟩) | ((with_reducible refine (M2.out _).mono ?_); rintro en wb ⟨rfl, hb⟩))
    refine hK.out _ _ (hHeld11.next hb) (fun hHeld12 => ?_)
    replace hS11 := hS11.next hb
    clear hK K
    try clear hb
    try simp only [Act.put, List.setIfInBounds_toArray, List.set_cons_zero, List.set_cons_succ]
    refine wpAnyH_ready (rs := [11]) (by kernel_rfl) (by simp) ?_
    refine AllReadyH.cons (o := ⟨some 12, _, _, _, _, _⟩) rfl (fun K hK => ?_) AllReadyH.nil
    have hne11_12 := hS11.2.1.1
    have lo12 := hHeld12.1.size
    obtain ⟨⟨a12_z0, a12_c0, a12_f0⟩, ⟨a12_z1, a12_c1, a12_f1⟩, ⟨a12_z2, a12_c2, a12_f2⟩, ⟨a12_z3, a12_c3, a12_f3⟩, ⟨a12_z4, a12_c4, a12_f4⟩, ⟨a12_z5, a12_c5, a12_f5⟩, ⟨a12_z6, a12_c6, a12_f6⟩, ⟨a12_z7, a12_c7, a12_f7⟩, ⟨a12_z8, a12_c8, a12_f8⟩, ⟨a12_z9, a12_c9, a12_f9⟩, ⟨a12_z10, a12_c10, a12_f10⟩, ⟨a12_z11, a12_c11, a12_f11⟩, _⟩ := hHeld12.2
    (try simp at lo12); (try simp at hne11_12); (try simp at a12_z0); (try simp at a12_z1); (try simp at a12_z2); (try simp at a12_z3); (try simp at a12_z4); (try simp at a12_z5); (try simp at a12_z6); (try simp at a12_z7); (try simp at a12_z8); (try simp at a12_z9); (try simp at a12_z10); (try simp at a12_z11)
    go_simp
    refine hK.out _ _ (by first | exact hHeld12.alloc _ | exact (hHeld12.alloc _).drew) (fun hHeld13 => ?_)
    first | replace hS11 := hS11.alloc2e hHeld13 | replace hS11 := hS11.alloc2 hHeld13
    first | have hS12 := newK2 hHeld13 | have hS12 := newK2d hHeld13
    clear hK K
    try clear hb
    try simp only [Act.put, List.setIfInBounds_toArray, List.set_cons_zero, List.set_cons_succ]
    generalize hGWA10 : World.alloc wb (.cells #[.int .i64 0, .int .u64 0] 41) = WA10 at *
    clear hGWA10
    refine wpAnyH_ready (rs := [12]) (by kernel_rfl) (by simp) ?_
    refine AllReadyH.cons (o := ⟨none, _, _, _, _, _⟩) rfl (fun K hK => ?_) AllReadyH.nil
    obtain ⟨⟨s11z0, s11c0, s11f0⟩, ⟨s11z1, s11c1, s11f1⟩, _⟩ := hS11.2
    go_simp
    refine hK.out _ _ (by (repeat (first | (with_reducible exact hHeld13) | (refine Keeps.set ?_ (by simp <;> omega) (by simp <;> omega) _)))) (fun hHeld14 => ?_)
    replace hS12 := hS12.mv2 hHeld14 (by first | omega | (simp <;> omega)) (by simp <;> omega)
    replace hS11 := hHeld14.add2 s11z0 s11c0 s11f0 s11c1 s11f1
    clear s11z0 s11c0 s11f0 s11z1 s11c1 s11f1
    clear hK K
    try clear hb
    try simp only [Act.put, List.setIfInBounds_toArray, List.set_cons_zero, List.set_cons_succ]
    generalize hGWA11 : World.setCell (World.setCell WA10 ⟨wa.heap.size, 0, none⟩ (.int .i64 j0)) ⟨wa.heap.size, 1, none⟩ (.int .u64 j1) = WA11 at *
    clear hGWA11
    refine wpAnyH_ready (rs := [13]) (by kernel_rfl) (by simp) ?_
    refine AllReadyH.cons (o := ⟨none, _, _, _, _, _⟩) rfl (fun K hK => ?_) AllReadyH.nil
    obtain ⟨⟨s12z0, s12c0, s12f0⟩, ⟨s12z1, s12c1, s12f1⟩, _⟩ := hS12.2
    go_simp
    refine hK.out _ _ (by (repeat (first | (with_reducible exact hHeld14) | (refine Keeps.set ?_ (by simp <;> omega) (by simp <;> omega) _)))) (fun hHeld15 => ?_)
    replace hS11 := hS11.mv2 hHeld15 (by first | omega | (simp <;> omega)) (by simp <;> omega)
    replace hS12 := hHeld15.add2 s12z0 s12c0 s12f0 s12c1 s12f1
    clear s12z0 s12c0 s12f0 s12z1 s12c1 s12f1
    clear hK K
    try clear hb
    try simp only [Act.put, List.setIfInBounds_toArray, List.set_cons_zero, List.set_cons_succ]
    generalize hGWA12 : World.setCell (World.setCell WA11 ⟨wb.heap.size, 0, none⟩ (.int .i64 j2)) ⟨wb.heap.size, 1, none⟩ (.int .u64 j3) = WA12 at *
    clear hGWA12
    refine wpAnyH_done (by kernel_rfl) ?_ _
    have hHeld := hHeld15
    rotate_left 1
    refine AllReadyH.cons (o := ⟨some 12, _, _, _, _, _⟩) rfl (fun K hK => ?_) ?_
    have hne11_12 := hS11.2.1.1
    have lo12 := hHeld11.1.size
    obtain ⟨⟨a12_z0, a12_c0, a12_f0⟩, ⟨a12_z1, a12_c1, a12_f1⟩, ⟨a12_z2, a12_c2, a12_f2⟩, ⟨a12_z3, a12_c3, a12_f3⟩, ⟨a12_z4, a12_c4, a12_f4⟩, ⟨a12_z5, a12_c5, a12_f5⟩, ⟨a12_z6, a12_c6, a12_f6⟩, ⟨a12_z7, a12_c7, a12_f7⟩, ⟨a12_z8, a12_c8, a12_f8⟩, ⟨a12_z9, a12_c9, a12_f9⟩, ⟨a12_z10, a12_c10, a12_f10⟩, ⟨a12_z11, a12_c11, a12_f11⟩, _⟩ := hHeld11.2
    (try simp at lo12); (try simp at hne11_12); (try simp at a12_z0); (try simp at a12_z1); (try simp at a12_z2); (try simp at a12_z3); (try simp at a12_z4); (try simp at a12_z5); (try simp at a12_z6); (try simp at a12_z7); (try simp at a12_z8); (try simp at a12_z9); (try simp at a12_z10); (try simp at a12_z11)
    go_simp
    refine hK.out _ _ (by first | exact hHeld11.alloc _ | exact (hHeld11.alloc _).drew) (fun hHeld16 => ?_)
    first | replace hS11 := hS11.alloc2e hHeld16 | replace hS11 := hS11.alloc2 hHeld16
    first | have hS12 := newK2 hHeld16 | have hS12 := newK2d hHeld16
    clear hK K
    try clear hb
    try simp only [Act.put, List.setIfInBounds_toArray, List.set_cons_zero, List.set_cons_succ]
    generalize hGWA13 : World.alloc WA9 (.cells #[.int .i64 0, .int .u64 0] 41) = WA13 at *
    clear hGWA13
    refine wpAnyH_ready (rs := [9]) (by kernel_rfl) (by simp) ?_
    refine AllReadyH.cons (o := ⟨some 74, _, _, _, _, _⟩) rfl (fun K hK => ?_) AllReadyH.nil
    go_simp
    (first | ((with_reducible refine (M1.out _).mono ?_); rintro en wa ⟨rfl, hb⟩) | ((with_reducible refine (M2.out _).mono ?_); rintro en wb ⟨rfl, hb⟩))
    refine hK.out _ _ (hHeld16.next hb) (fun hHeld17 => ?_)
    replace hS11 := hS11.next hb
    replace hS12 := hS12.next hb
    clear hK K
    try clear hb
    try simp only [Act.put, List.setIfInBounds_toArray, List.set_cons_zero, List.set_cons_succ]
    refine wpAnyH_ready (rs := [12]) (by kernel_rfl) (by simp) ?_
    refine AllReadyH.cons (o := ⟨none, _, _, _, _, _⟩) rfl (fun K hK => ?_) AllReadyH.nil
    obtain ⟨⟨s11z0, s11c0, s11f0⟩, ⟨s11z1, s11c1, s11f1⟩, _⟩ := hS11.2
    go_simp
    refine hK.out _ _ (by (repeat (first | (with_reducible exact hHeld17) | (refine Keeps.set ?_ (by simp <;> omega) (by simp <;> omega) _)))) (fun hHeld18 => ?_)
    replace hS12 := hS12.mv2 hHeld18 (by first | omega | (simp <;> omega)) (by simp <;> omega)
    replace hS11 := hHeld18.add2 s11z0 s11c0 s11f0 s11c1 s11f1
    clear s11z0 s11c0 s11f0 s11z1 s11c1 s11f1
    clear hK K
    try clear hb
    try simp only [Act.put, List.setIfInBounds_toArray, List.set_cons_zero, List.set_cons_succ]
    generalize hGWA14 : World.setCell (World.setCell wb ⟨wa.heap.size, 0, none⟩ (.int .i64 j0)) ⟨wa.heap.size, 1, none⟩ (.int .u64 j1) = WA14 at *
    clear hGWA14
    refine wpAnyH_ready (rs := [13]) (by kernel_rfl) (by simp) ?_
    refine AllReadyH.cons (o := ⟨none, _, _, _, _, _⟩) rfl (fun K hK => ?_) AllReadyH.nil
    obtain ⟨⟨s12z0, s12c0, s12f0⟩, ⟨s12z1, s12c1, s12f1⟩, _⟩ := hS12.2
    go_simp
    refine hK.out _ _ (by (repeat (first | (with_reducible exact hHeld18) | (refine Keeps.set ?_ (by simp <;> omega) (by simp <;> omega) _)))) (fun hHeld19 => ?_)
    replace hS11 := hS11.mv2 hHeld19 (by first | omega | (simp <;> omega)) (by simp <;> omega)
    replace hS12 := hHeld19.add2 s12z0 s12c0 s12f0 s12c1 s12f1
    clear s12z0 s12c0 s12f0 s12z1 s12c1 s12f1
    clear hK K
    try clear hb
    try simp only [Act.put, List.setIfInBounds_toArray, List.set_cons_zero, List.set_cons_succ]
    generalize hGWA15 : World.setCell (World.setCell WA14 ⟨WA9.heap.size, 0, none⟩ (.int .i64 j2)) ⟨WA9.heap.size, 1, none⟩ (.int .u64 j3) = WA15 at *
    clear hGWA15
    refine wpAnyH_done (by kernel_rfl) ?_ _
    have hHeld := hHeld19
    rotate_left 1
    exact AllReadyH.nil
    refine AllReadyH.cons (o := ⟨some 12, _, _, _, _, _⟩) rfl (fun K hK => ?_) ?_
    have lo12 := hHeld1.1.size
    obtain ⟨⟨a12_z0, a12_c0, a12_f0⟩, ⟨a12_z1, a12_c1, a12_f1⟩, ⟨a12_z2, a12_c2, a12_f2⟩, ⟨a12_z3, a12_c3, a12_f3⟩, ⟨a12_z4, a12_c4, a12_f4⟩, ⟨a12_z5, a12_c5, a12_f5⟩, ⟨a12_z6, a12_c6, a12_f6⟩, ⟨a12_z7, a12_c7, a12_f7⟩, ⟨a12_z8, a12_c8, a12_f8⟩, ⟨a12_z9, a12_c9, a12_f9⟩, ⟨a12_z10, a12_c10, a12_f10⟩, ⟨a12_z11, a12_c11, a12_f11⟩, _⟩ := hHeld1.2
    (try simp at lo12); (try simp at a12_z0); (try simp at a12_z1); (try simp at a12_z2); (try simp at a12_z3); (try simp at a12_z4); (try simp at a12_z5); (try simp at a12_z6); (try simp at a12_z7); (try simp at a12_z8); (try simp at a12_z9); (try simp at a12_z10); (try simp at a12_z11)
    go_simp
    refine hK.out _ _ (by first | exact hHeld1.alloc _ | exact (hHeld1.alloc _).drew) (fun hHeld20 => ?_)
    first | have hS12 := newK2 hHeld20 | have hS12 := newK2d hHeld20
    clear hK K
    try clear hb
    try simp only [Act.put, List.setIfInBounds_toArray, List.set_cons_zero, List.set_cons_succ]
    generalize hGWA16 : World.alloc wa (.cells #[.int .i64 0, .int .u64 0] 41) = WA16 at *
    clear hGWA16
    refine wpAnyH_ready (rs := [9, 10]) (by kernel_rfl) (by simp) ?_
    refine AllReadyH.cons (o := ⟨some 74, _, _, _, _, _⟩) rfl (fun K hK => ?_) ?_
    go_simp
    (first | ((with_reducible refine (M1.out _).mono ?_); rintro en wa ⟨rfl, hb⟩) | ((with_reducible refine (M2.out _).mono ?_); rintro en wb ⟨rfl, hb⟩))
    refine hK.out _ _ (hHeld20.next hb) (fun hHeld21 => ?_)
    replace hS12 := hS12.next hb
    clear hK K
    try clear hb
    try simp only [Act.put, List.setIfInBounds_toArray, List.set_cons_zero, List.set_cons_succ]
    refine wpAnyH_ready (rs := [10]) (by kernel_rfl) (by simp) ?_
    refine AllReadyH.cons (o := ⟨some 11, _, _, _, _, _⟩) rfl (fun K hK => ?_) AllReadyH.nil
    have hne12_11 := hS12.2.1.1
    have lo11 := hHeld21.1.size
    obtain ⟨⟨a11_z0, a11_c0, a11_f0⟩, ⟨a11_z1, a11_c1, a11_f1⟩, ⟨a11_z2, a11_c2, a11_f2⟩, ⟨a11_z3, a11_c3, a11_f3⟩, ⟨a11_z4, a11_c4, a11_f4⟩, ⟨a11_z5, a11_c5, a11_f5⟩, ⟨a11_z6, a11_c6, a11_f6⟩, ⟨a11_z7, a11_c7, a11_f7⟩, ⟨a11_z8, a11_c8, a11_f8⟩, ⟨a11_z9, a11_c9, a11_f9⟩, ⟨a11_z10, a11_c10, a11_f10⟩, ⟨a11_z11, a11_c11, a11_f11⟩, _⟩ := hHeld21.2
    (try simp at lo11); (try simp at hne12_11); (try simp at a11_z0); (try simp at a11_z1); (try simp at a11_z2); (try simp at a11_z3); (try simp at a11_z4); (try simp at a11_z5); (try simp at a11_z6); (try simp at a11_z7); (try simp at a11_z8); (try simp at a11_z9); (try simp at a11_z10); (try simp at a11_z11)
    go_simp
    refine hK.out _ _ (by first | exact hHeld21.alloc _ | exact (hHeld21.alloc _).drew) (fun hHeld22 => ?_)
    first | replace hS12 := hS12.alloc2e hHeld22 | replace hS12 := hS12.alloc2 hHeld22
    first | have hS11 := newK2 hHeld22 | have hS11 := newK2d hHeld22
    clear hK K
    try clear hb
    try simp only [Act.put, List.setIfInBounds_toArray, List.set_cons_zero, List.set_cons_succ]
    generalize hGWA17 : World.alloc wb (.cells #[.int .i64 0, .int .u64 0] 41) = WA17 at *
    clear hGWA17
    refine wpAnyH_ready (rs := [12]) (by kernel_rfl) (by simp) ?_
    refine AllReadyH.cons (o := ⟨none, _, _, _, _, _⟩) rfl (fun K hK => ?_) AllReadyH.nil
    obtain ⟨⟨s11z0, s11c0, s11f0⟩, ⟨s11z1, s11c1, s11f1⟩, _⟩ := hS11.2
    go_simp
    refine hK.out _ _ (by (repeat (first | (with_reducible exact hHeld22) | (refine Keeps.set ?_ (by simp <;> omega) (by simp <;> omega) _)))) (fun hHeld23 => ?_)
    replace hS12 := hS12.mv2 hHeld23 (by first | omega | (simp <;> omega)) (by simp <;> omega)
    replace hS11 := hHeld23.add2 s11z0 s11c0 s11f0 s11c1 s11f1
    clear s11z0 s11c0 s11f0 s11z1 s11c1 s11f1
    clear hK K
    try clear hb
    try simp only [Act.put, List.setIfInBounds_toArray, List.set_cons_zero, List.set_cons_succ]
    generalize hGWA18 : World.setCell (World.setCell WA17 ⟨wb.heap.size, 0, none⟩ (.int .i64 j0)) ⟨wb.heap.size, 1, none⟩ (.int .u64 j1) = WA18 at *
    clear hGWA18
    refine wpAnyH_ready (rs := [13]) (by kernel_rfl) (by simp) ?_
    refine AllReadyH.cons (o := ⟨none, _, _, _, _, _⟩) rfl (fun K hK => ?_) AllReadyH.nil
    obtain ⟨⟨s12z0, s12c0, s12f0⟩, ⟨s12z1, s12c1, s12f1⟩, _⟩ := hS12.2
    go_simp
    refine hK.out _ _ (by (repeat (first | (with_reducible exact hHeld23) | (refine Keeps.set ?_ (by simp <;> omega) (by simp <;> omega) _)))) (fun hHeld24 => ?_)
    replace hS11 := hS11.mv2 hHeld24 (by first | omega | (simp <;> omega)) (by simp <;> omega)
    replace hS12 := hHeld24.add2 s12z0 s12c0 s12f0 s12c1 s12f1
    clear s12z0 s12c0 s12f0 s12z1 s12c1 s12f1
    clear hK K
    try clear hb
    try simp only [Act.put, List.setIfInBounds_toArray, List.set_cons_zero, List.set_cons_succ]
    generalize hGWA19 : World.setCell (World.setCell WA18 ⟨wa.heap.size, 0, none⟩ (.int .i64 j2)) ⟨wa.heap.size, 1, none⟩ (.int .u64 j3) = WA19 at *
    clear hGWA19
    refine wpAnyH_done (by kernel_rfl) ?_ _
    have hHeld := hHeld24
    rotate_left 1
    refine AllReadyH.cons (o := ⟨some 11, _, _, _, _, _⟩) rfl (fun K hK => ?_) ?_
    have hne12_11 := hS12.2.1.1
    have lo11 := hHeld20.1.size
    obtain ⟨⟨a11_z0, a11_c0, a11_f0⟩, ⟨a11_z1, a11_c1, a11_f1⟩, ⟨a11_z2, a11_c2, a11_f2⟩, ⟨a11_z3, a11_c3, a11_f3⟩, ⟨a11_z4, a11_c4, a11_f4⟩, ⟨a11_z5, a11_c5, a11_f5⟩, ⟨a11_z6, a11_c6, a11_f6⟩, ⟨a11_z7, a11_c7, a11_f7⟩, ⟨a11_z8, a11_c8, a11_f8⟩, ⟨a11_z9, a11_c9, a11_f9⟩, ⟨a11_z10, a11_c10, a11_f10⟩, ⟨a11_z11, a11_c11, a11_f11⟩, _⟩ := hHeld20.2
    (try simp at lo11); (try simp at hne12_11); (try simp at a11_z0); (try simp at a11_z1); (try simp at a11_z2); (try simp at a11_z3); (try simp at a11_z4); (try simp at a11_z5); (try simp at a11_z6); (try simp at a11_z7); (try simp at a11_z8); (try simp at a11_z9); (try simp at a11_z10); (try simp at a11_z11)
    go_simp
    refine hK.out _ _ (by first | exact hHeld20.alloc _ | exact (hHeld20.alloc _).drew) (fun hHeld25 => ?_)
    first | replace hS12 := hS12.alloc2e hHeld25 | replace hS12 := hS12.alloc2 hHeld25
    first | have hS11 := newK2 hHeld25 | have hS11 := newK2d hHeld25
    clear hK K
    try clear hb
    try simp only [Act.put, List.setIfInBounds_toArray, List.set_cons_zero, List.set_cons_succ]
    generalize hGWA20 : World.alloc WA16 (.cells #[.int .i64 0, .int .u64 0] 41) = WA20 at *
    clear hGWA20
    refine wpAnyH_ready (rs := [9]) (by kernel_rfl) (by simp) ?_
    refine AllReadyH.cons (o := ⟨some 74, _, _, _, _, _⟩) rfl (fun K hK => ?_) AllReadyH.nil
    go_simp
    (first | ((with_reducible refine (M1.out _).mono ?_); rintro en wa ⟨rfl, hb⟩) | ((with_reducible refine (M2.out _).mono ?_); rintro en wb ⟨rfl, hb⟩))
    refine hK.out _ _ (hHeld25.next hb) (fun hHeld26 => ?_)
    replace hS12 := hS12.next hb
    replace hS11 := hS11.next hb
    clear hK K
    try clear hb
    try simp only [Act.put, List.setIfInBounds_toArray, List.set_cons_zero, List.set_cons_succ]
    refine wpAnyH_ready (rs := [12]) (by kernel_rfl) (by simp) ?_
    refine AllReadyH.cons (o := ⟨none, _, _, _, _, _⟩) rfl (fun K hK => ?_) AllReadyH.nil
    obtain ⟨⟨s11z0, s11c0, s11f0⟩, ⟨s11z1, s11c1, s11f1⟩, _⟩ := hS11.2
    go_simp
    refine hK.out _ _ (by (repeat (first | (with_reducible exact hHeld26) | (refine Keeps.set ?_ (by simp <;> omega) (by simp <;> omega) _)))) (fun hHeld27 => ?_)
    replace hS12 := hS12.mv2 hHeld27 (by first | omega | (simp <;> omega)) (by simp <;> omega)
    replace hS11 := hHeld27.add2 s11z0 s11c0 s11f0 s11c1 s11f1
    clear s11z0 s11c0 s11f0 s11z1 s11c1 s11f1
    clear hK K
    try clear hb
    try simp only [Act.put, List.setIfInBounds_toArray, List.set_cons_zero, List.set_cons_succ]
    generalize hGWA21 : World.setCell (World.setCell wb ⟨WA16.heap.size, 0, none⟩ (.int .i64 j0)) ⟨WA16.heap.size, 1, none⟩ (.int .u64 j1) = WA21 at *
    clear hGWA21
    refine wpAnyH_ready (rs := [13]) (by kernel_rfl) (by simp) ?_
    refine AllReadyH.cons (o := ⟨none, _, _, _, _, _⟩) rfl (fun K hK => ?_) AllReadyH.nil
    obtain ⟨⟨s12z0, s12c0, s12f0⟩, ⟨s12z1, s12c1, s12f1⟩, _⟩ := hS12.2
    go_simp
    refine hK.out _ _ (by (repeat (first | (with_reducible exact hHeld27) | (refine Keeps.set ?_ (by simp <;> omega) (by simp <;> omega) _)))) (fun hHeld28 => ?_)
    replace hS11 := hS11.mv2 hHeld28 (by first | omega | (simp <;> omega)) (by simp <;> omega)
    replace hS12 := hHeld28.add2 s12z0 s12c0 s12f0 s12c1 s12f1
    clear s12z0 s12c0 s12f0 s12z1 s12c1 s12f1
    clear hK K
    try clear hb
    try simp only [Act.put, List.setIfInBounds_toArray, List.set_cons_zero, List.set_cons_succ]
    generalize hGWA22 : World.setCell (World.setCell WA21 ⟨wa.heap.size, 0, none⟩ (.int .i64 j2)) ⟨wa.heap.size, 1, none⟩ (.int .u64 j3) = WA22 at *
    clear hGWA22
    refine wpAnyH_done (by kernel_rfl) ?_ _
    have hHeld := hHeld28
    rotate_left 1
    exact AllReadyH.nil
    exact AllReadyH.nil
    refine AllReadyH.cons (o := ⟨some 11, _, _, _, _, _⟩) rfl (fun K hK => ?_) ?_
    have lo11 := hHeld0.1.size
    obtain ⟨⟨a11_z0, a11_c0, a11_f0⟩, ⟨a11_z1, a11_c1, a11_f1⟩, ⟨a11_z2, a11_c2, a11_f2⟩, ⟨a11_z3, a11_c3, a11_f3⟩, ⟨a11_z4, a11_c4, a11_f4⟩, ⟨a11_z5, a11_c5, a11_f5⟩, ⟨a11_z6, a11_c6, a11_f6⟩, ⟨a11_z7, a11_c7, a11_f7⟩, ⟨a11_z8, a11_c8, a11_f8⟩, ⟨a11_z9, a11_c9, a11_f9⟩, ⟨a11_z10, a11_c10, a11_f10⟩, ⟨a11_z11, a11_c11, a11_f11⟩, _⟩ := hHeld0.2
    (try simp at lo11); (try simp at a11_z0); (try simp at a11_z1); (try simp at a11_z2); (try simp at a11_z3); (try simp at a11_z4); (try simp at a11_z5); (try simp at a11_z6); (try simp at a11_z7); (try simp at a11_z8); (try simp at a11_z9); (try simp at a11_z10); (try simp at a11_z11)
    go_simp
    refine hK.out _ _ (by first | exact hHeld0.alloc _ | exact (hHeld0.alloc _).drew) (fun hHeld29 => ?_)
    first | have hS11 := newK2 hHeld29 | have hS11 := newK2d hHeld29
    clear hK K
    try clear hb
    try simp only [Act.put, List.setIfInBounds_toArray, List.set_cons_zero, List.set_cons_succ]
    generalize hGWA23 : World.alloc w8 (.cells #[.int .i64 0, .int .u64 0] 41) = WA23 at *
    clear hGWA23
    refine wpAnyH_ready (rs := [4, 11]) (by kernel_rfl) (by simp) ?_
    refine AllReadyH.cons (o := ⟨some 69, _, _, _, _, _⟩) rfl (fun K hK => ?_) ?_
    go_simp
    (first | ((with_reducible refine (M1.out _).mono ?_); rintro en wa ⟨rfl, hb⟩) | ((with_reducible refine (M2.out _).mono ?_); rintro en wb ⟨rfl, hb⟩))
    refine hK.out _ _ (hHeld29.next hb) (fun hHeld30 => ?_)
    replace hS11 := hS11.next hb
    clear hK K
    try clear hb
    try simp only [Act.put, List.setIfInBounds_toArray, List.set_cons_zero, List.set_cons_succ]
    refine wpAnyH_ready (rs := [9, 11]) (by kernel_rfl) (by simp) ?_
    refine AllReadyH.cons (o := ⟨some 74, _, _, _, _, _⟩) rfl (fun K hK => ?_) ?_
    go_simp
    (first | ((with_reducible refine (M1.out _).mono ?_); rintro en wa ⟨rfl, hb⟩) | ((with_reducible refine (M2.out _).mono ?_); rintro en wb ⟨rfl, hb⟩))
    refine hK.out _ _ (hHeld30.next hb) (fun hHeld31 => ?_)
    replace hS11 := hS11.next hb
    clear hK K
    try clear hb
    try simp only [Act.put, List.setIfInBounds_toArray, List.set_cons_zero, List.set_cons_succ]
    refine wpAnyH_ready (rs := [11]) (by kernel_rfl) (by simp) ?_
    refine AllReadyH.cons (o := ⟨some 12, _, _, _, _, _⟩) rfl (fun K hK => ?_) AllReadyH.nil
    have hne11_12 := hS11.2.1.1
    have lo12 := hHeld31.1.size
    obtain ⟨⟨a12_z0, a12_c0, a12_f0⟩, ⟨a12_z1, a12_c1, a12_f1⟩, ⟨a12_z2, a12_c2, a12_f2⟩, ⟨a12_z3, a12_c3, a12_f3⟩, ⟨a12_z4, a12_c4, a12_f4⟩, ⟨a12_z5, a12_c5, a12_f5⟩, ⟨a12_z6, a12_c6, a12_f6⟩, ⟨a12_z7, a12_c7, a12_f7⟩, ⟨a12_z8, a12_c8, a12_f8⟩, ⟨a12_z9, a12_c9, a12_f9⟩, ⟨a12_z10, a12_c10, a12_f10⟩, ⟨a12_z11, a12_c11, a12_f11⟩, _⟩ := hHeld31.2
    (try simp at lo12); (try simp at hne11_12); (try simp at a12_z0); (try simp at a12_z1); (try simp at a12_z2); (try simp at a12_z3); (try simp at a12_z4); (try simp at a12_z5); (try simp at a12_z6); (try simp at a12_z7); (try simp at a12_z8); (try simp at a12_z9); (try simp at a12_z10); (try simp at a12_z11)
    go_simp
    refine hK.out _ _ (by first | exact hHeld31.alloc _ | exact (hHeld31.alloc _).drew) (fun hHeld32 => ?_)
    first | replace hS11 := hS11.alloc2e hHeld32 | replace hS11 := hS11.alloc2 hHeld32
    first | have hS12 := newK2 hHeld32 | have hS12 := newK2d hHeld32
    clear hK K
    try clear hb
    try simp only [Act.put, List.setIfInBounds_toArray, List.set_cons_zero, List.set_cons_succ]
    generalize hGWA24 : World.alloc wb (.cells #[.int .i64 0, .int .u64 0] 41) = WA24 at *
    clear hGWA24
    refine wpAnyH_ready (rs := [12]) (by kernel_rfl) (by simp) ?_
    refine AllReadyH.cons (o := ⟨none, _, _, _, _, _⟩) rfl (fun K hK => ?_) AllReadyH.nil
    obtain ⟨⟨s11z0, s11c0, s11f0⟩, ⟨s11z1, s11c1, s11f1⟩, _⟩ := hS11.2
    go_simp
    refine hK.out _ _ (by (repeat (first | (with_reducible exact hHeld32) | (refine Keeps.set ?_ (by simp <;> omega) (by simp <;> omega) _)))) (fun hHeld33 => ?_)
    replace hS12 := hS12.mv2 hHeld33 (by first | omega | (simp <;> omega)) (by simp <;> omega)
    replace hS11 := hHeld33.add2 s11z0 s11c0 s11f0 s11c1 s11f1
    clear s11z0 s11c0 s11f0 s11z1 s11c1 s11f1
    clear hK K
    try clear hb
    try simp only [Act.put, List.setIfInBounds_toArray, List.set_cons_zero, List.set_cons_succ]
    generalize hGWA25 : World.setCell (World.setCell WA24 ⟨w8.heap.size, 0, none⟩ (.int .i64 j0)) ⟨w8.heap.size, 1, none⟩ (.int .u64 j1) = WA25 at *
    clear hGWA25
    refine wpAnyH_ready (rs := [13]) (by kernel_rfl) (by simp) ?_
    refine AllReadyH.cons (o := ⟨none, _, _, _, _, _⟩) rfl (fun K hK => ?_) AllReadyH.nil
    obtain ⟨⟨s12z0, s12c0, s12f0⟩, ⟨s12z1, s12c1, s12f1⟩, _⟩ := hS12.2
    go_simp
    refine hK.out _ _ (by (repeat (first | (with_reducible exact hHeld33) | (refine Keeps.set ?_ (by simp <;> omega) (by simp <;> omega) _)))) (fun hHeld34 => ?_)
    replace hS11 := hS11.mv2 hHeld34 (by first | omega | (simp <;> omega)) (by simp <;> omega)
    replace hS12 := hHeld34.add2 s12z0 s12c0 s12f0 s12c1 s12f1
    clear s12z0 s12c0 s12f0 s12z1 s12c1 s12f1
    clear hK K
    try clear hb
    try simp only [Act.put, List.setIfInBounds_toArray, List.set_cons_zero, List.set_cons_succ]
    generalize hGWA26 : World.setCell (World.setCell WA25 ⟨wb.heap.size, 0, none⟩ (.int .i64 j2)) ⟨wb.heap.size, 1, none⟩ (.int .u64 j3) = WA26 at *
    clear hGWA26
    refine wpAnyH_done (by kernel_rfl) ?_ _
    have hHeld := hHeld34
    rotate_left 1
    refine AllReadyH.cons (o := ⟨some 12, _, _, _, _, _⟩) rfl (fun K hK => ?_) ?_
    have hne11_12 := hS11.2.1.1
    have lo12 := hHeld30.1.size
    obtain ⟨⟨a12_z0, a12_c0, a12_f0⟩, ⟨a12_z1, a12_c1, a12_f1⟩, ⟨a12_z2, a12_c2, a12_f2⟩, ⟨a12_z3, a12_c3, a12_f3⟩, ⟨a12_z4, a12_c4, a12_f4⟩, ⟨a12_z5, a12_c5, a12_f5⟩, ⟨a12_z6, a12_c6, a12_f6⟩, ⟨a12_z7, a12_c7, a12_f7⟩, ⟨a12_z8, a12_c8, a12_f8⟩, ⟨a12_z9, a12_c9, a12_f9⟩, ⟨a12_z10, a12_c10, a12_f10⟩, ⟨a12_z11, a12_c11, a12_f11⟩, _⟩ := hHeld30.2
    (try simp at lo12); (try simp at hne11_12); (try simp at a12_z0); (try simp at a12_z1); (try simp at a12_z2); (try simp at a12_z3); (try simp at a12_z4); (try simp at a12_z5); (try simp at a12_z6); (try simp at a12_z7); (try simp at a12_z8); (try simp at a12_z9); (try simp at a12_z10); (try simp at a12_z11)
    go_simp
    refine hK.out _ _ (by first | exact hHeld30.alloc _ | exact (hHeld30.alloc _).drew) (fun hHeld35 => ?_)
    first | replace hS11 := hS11.alloc2e hHeld35 | replace hS11 := hS11.alloc2 hHeld35
    first | have hS12 := newK2 hHeld35 | have hS12 := newK2d hHeld35
    clear hK K
    try clear hb
    try simp only [Act.put, List.setIfInBounds_toArray, List.set_cons_zero, List.set_cons_succ]
    generalize hGWA27 : World.alloc wa (.cells #[.int .i64 0, .int .u64 0] 41) = WA27 at *
    clear hGWA27
    refine wpAnyH_ready (rs := [9]) (by kernel_rfl) (by simp) ?_
    refine AllReadyH.cons (o := ⟨some 74, _, _, _, _, _⟩) rfl (fun K hK => ?_) AllReadyH.nil
    go_simp
    (first | ((with_reducible refine (M1.out _).mono ?_); rintro en wa ⟨rfl, hb⟩) | ((with_reducible refine (M2.out _).mono ?_); rintro en wb ⟨rfl, hb⟩))
    refine hK.out _ _ (hHeld35.next hb) (fun hHeld36 => ?_)
    replace hS11 := hS11.next hb
    replace hS12 := hS12.next hb
    clear hK K
    try clear hb
    try simp only [Act.put, List.setIfInBounds_toArray, List.set_cons_zero, List.set_cons_succ]
    refine wpAnyH_ready (rs := [12]) (by kernel_rfl) (by simp) ?_
    refine AllReadyH.cons (o := ⟨none, _, _, _, _, _⟩) rfl (fun K hK => ?_) AllReadyH.nil
    obtain ⟨⟨s11z0, s11c0, s11f0⟩, ⟨s11z1, s11c1, s11f1⟩, _⟩ := hS11.2
    go_simp
    refine hK.out _ _ (by (repeat (first | (with_reducible exact hHeld36) | (refine Keeps.set ?_ (by simp <;> omega) (by simp <;> omega) _)))) (fun hHeld37 => ?_)
    replace hS12 := hS12.mv2 hHeld37 (by first | omega | (simp <;> omega)) (by simp <;> omega)
    replace hS11 := hHeld37.add2 s11z0 s11c0 s11f0 s11c1 s11f1
    clear s11z0 s11c0 s11f0 s11z1 s11c1 s11f1
    clear hK K
    try clear hb
    try simp only [Act.put, List.setIfInBounds_toArray, List.set_cons_zero, List.set_cons_succ]
    generalize hGWA28 : World.setCell (World.setCell wb ⟨w8.heap.size, 0, none⟩ (.int .i64 j0)) ⟨w8.heap.size, 1, none⟩ (.int .u64 j1) = WA28 at *
    clear hGWA28
    refine wpAnyH_ready (rs := [13]) (by kernel_rfl) (by simp) ?_
    refine AllReadyH.cons (o := ⟨none, _, _, _, _, _⟩) rfl (fun K hK => ?_) AllReadyH.nil
    obtain ⟨⟨s12z0, s12c0, s12f0⟩, ⟨s12z1, s12c1, s12f1⟩, _⟩ := hS12.2
    go_simp
    refine hK.out _ _ (by (repeat (first | (with_reducible exact hHeld37) | (refine Keeps.set ?_ (by simp <;> omega) (by simp <;> omega) _)))) (fun hHeld38 => ?_)
    replace hS11 := hS11.mv2 hHeld38 (by first | omega | (simp <;> omega)) (by simp <;> omega)
    replace hS12 := hHeld38.add2 s12z0 s12c0 s12f0 s12c1 s12f1
    clear s12z0 s12c0 s12f0 s12z1 s12c1 s12f1
    clear hK K
    try clear hb
    try simp only [Act.put, List.setIfInBounds_toArray, List.set_cons_zero, List.set_cons_succ]
    generalize hGWA29 : World.setCell (World.setCell WA28 ⟨wa.heap.size, 0, none⟩ (.int .i64 j2)) ⟨wa.heap.size, 1, none⟩ (.int .u64 j3) = WA29 at *
    clear hGWA29
    refine wpAnyH_done (by kernel_rfl) ?_ _
    have hHeld := hHeld38
    rotate_left 1
    exact AllReadyH.nil
    refine AllReadyH.cons (o := ⟨some 12, _, _, _, _, _⟩) rfl (fun K hK => ?_) ?_
    have hne11_12 := hS11.2.1.1
    have lo12 := hHeld29.1.size
    obtain ⟨⟨a12_z0, a12_c0, a12_f0⟩, ⟨a12_z1, a12_c1, a12_f1⟩, ⟨a12_z2, a12_c2, a12_f2⟩, ⟨a12_z3, a12_c3, a12_f3⟩, ⟨a12_z4, a12_c4, a12_f4⟩, ⟨a12_z5, a12_c5, a12_f5⟩, ⟨a12_z6, a12_c6, a12_f6⟩, ⟨a12_z7, a12_c7, a12_f7⟩, ⟨a12_z8, a12_c8, a12_f8⟩, ⟨a12_z9, a12_c9, a12_f9⟩, ⟨a12_z10, a12_c10, a12_f10⟩, ⟨a12_z11, a12_c11, a12_f11⟩, _⟩ := hHeld29.2
    (try simp at lo12); (try simp at hne11_12); (try simp at a12_z0); (try simp at a12_z1); (try simp at a12_z2); (try simp at a12_z3); (try simp at a12_z4); (try simp at a12_z5); (try simp at a12_z6); (try simp at a12_z7); (try simp at a12_z8); (try simp at a12_z9); (try simp at a12_z10); (try simp at a12_z11)
    go_simp
    refine hK.out _ _ (by first | exact hHeld29.alloc _ | exact (hHeld29.alloc _).drew) (fun hHeld39 => ?_)
    first | replace hS11 := hS11.alloc2e hHeld39 | replace hS11 := hS11.alloc2 hHeld39
    first | have hS12 := newK2 hHeld39 | have hS12 := newK2d hHeld39
    clear hK K
    try clear hb
    try simp only [Act.put, List.setIfInBounds_toArray, List.set_cons_zero, List.set_cons_succ]
    generalize hGWA30 : World.alloc WA23 (.cells #[.int .i64 0, .int .u64 0] 41) = WA30 at *
    clear hGWA30
    refine wpAnyH_ready (rs := [4]) (by kernel_rfl) (by simp) ?_
    refine AllReadyH.cons (o := ⟨some 69, _, _, _, _, _⟩) rfl (fun K hK => ?_) AllReadyH.nil
    go_simp
    (first | ((with_reducible refine (M1.out _).mono ?_); rintro en wa ⟨rfl, hb⟩) | ((with_reducible refine (M2.out _).mono ?_); rintro en wb ⟨rfl, hb⟩))
    refine hK.out _ _ (hHeld39.next hb) (fun hHeld40 => ?_)
    replace hS11 := hS11.next hb
    replace hS12 := hS12.next hb
    clear hK K
    try clear hb
    try simp only [Act.put, List.setIfInBounds_toArray, List.set_cons_zero, List.set_cons_succ]
    refine wpAnyH_ready (rs := [9]) (by kernel_rfl) (by simp) ?_
    refine AllReadyH.cons (o := ⟨some 74, _, _, _, _, _⟩) rfl (fun K hK => ?_) AllReadyH.nil
    go_simp
    (first | ((with_reducible refine (M1.out _).mono ?_); rintro en wa ⟨rfl, hb⟩) | ((with_reducible refine (M2.out _).mono ?_); rintro en wb ⟨rfl, hb⟩))
    refine hK.out _ _ (hHeld40.next hb) (fun hHeld41 => ?_)
    replace hS11 := hS11.next hb
    replace hS12 := hS12.next hb
    clear hK K
    try clear hb
    try simp only [Act.put, List.setIfInBounds_toArray, List.set_cons_zero, List.set_cons_succ]
    refine wpAnyH_ready (rs := [12]) (by kernel_rfl) (by simp) ?_
    refine AllReadyH.cons (o := ⟨none, _, _, _, _, _⟩) rfl (fun K hK => ?_) AllReadyH.nil
    obtain ⟨⟨s11z0, s11c0, s11f0⟩, ⟨s11z1, s11c1, s11f1⟩, _⟩ := hS11.2
    go_simp
    refine hK.out _ _ (by (repeat (first | (with_reducible exact hHeld41) | (refine Keeps.set ?_ (by simp <;> omega) (by simp <;> omega) _)))) (fun hHeld42 => ?_)
    replace hS12 := hS12.mv2 hHeld42 (by first | omega | (simp <;> omega)) (by simp <;> omega)
    replace hS11 := hHeld42.add2 s11z0 s11c0 s11f0 s11c1 s11f1
    clear s11z0 s11c0 s11f0 s11z1 s11c1 s11f1
    clear hK K
    try clear hb
    try simp only [Act.put, List.setIfInBounds_toArray, List.set_cons_zero, List.set_cons_succ]
    generalize hGWA31 : World.setCell (World.setCell wb ⟨w8.heap.size, 0, none⟩ (.int .i64 j0)) ⟨w8.heap.size, 1, none⟩ (.int .u64 j1) = WA31 at *
    clear hGWA31
    refine wpAnyH_ready (rs := [13]) (by kernel_rfl) (by simp) ?_
    refine AllReadyH.cons (o := ⟨none, _, _, _, _, _⟩) rfl (fun K hK => ?_) AllReadyH.nil
    obtain ⟨⟨s12z0, s12c0, s12f0⟩, ⟨s12z1, s12c1, s12f1⟩, _⟩ := hS12.2
    go_simp
    refine hK.out _ _ (by (repeat (first | (with_reducible exact hHeld42) | (refine Keeps.set ?_ (by simp <;> omega) (by simp <;> omega) _)))) (fun hHeld43 => ?_)
    replace hS11 := hS11.mv2 hHeld43 (by first | omega | (simp <;> omega)) (by simp <;> omega)
    replace hS12 := hHeld43.add2 s12z0 s12c0 s12f0 s12c1 s12f1
    clear s12z0 s12c0 s12f0 s12z1 s12c1 s12f1
    clear hK K
    try clear hb
    try simp only [Act.put, List.setIfInBounds_toArray, List.set_cons_zero, List.set_cons_succ]
    generalize hGWA32 : World.setCell (World.setCell WA31 ⟨WA23.heap.size, 0, none⟩ (.int .i64 j2)) ⟨WA23.heap.size, 1, none⟩ (.int .u64 j3) = WA32 at *
    clear hGWA32
    refine wpAnyH_done (by kernel_rfl) ?_ _
    have hHeld := hHeld43
    rotate_left 1
    exact AllReadyH.nil
    refine AllReadyH.cons (o := ⟨some 12, _, _, _, _, _⟩) rfl (fun K hK => ?_) ?_
    have lo12 := hHeld0.1.size
    obtain ⟨⟨a12_z0, a12_c0, a12_f0⟩, ⟨a12_z1, a12_c1, a12_f1⟩, ⟨a12_z2, a12_c2, a12_f2⟩, ⟨a12_z3, a12_c3, a12_f3⟩, ⟨a12_z4, a12_c4, a12_f4⟩, ⟨a12_z5, a12_c5, a12_f5⟩, ⟨a12_z6, a12_c6, a12_f6⟩, ⟨a12_z7, a12_c7, a12_f7⟩, ⟨a12_z8, a12_c8, a12_f8⟩, ⟨a12_z9, a12_c9, a12_f9⟩, ⟨a12_z10, a12_c10, a12_f10⟩, ⟨a12_z11, a12_c11, a12_f11⟩, _⟩ := hHeld0.2
    (try simp at lo12); (try simp at a12_z0); (try simp at a12_z1); (try simp at a12_z2); (try simp at a12_z3); (try simp at a12_z4); (try simp at a12_z5); (try simp at a12_z6); (try simp at a12_z7); (try simp at a12_z8); (try simp at a12_z9); (try simp at a12_z10); (try simp at a12_z11)
    go_simp
    refine hK.out _ _ (by first | exact hHeld0.alloc _ | exact (hHeld0.alloc _).drew) (fun hHeld44 => ?_)
    first | have hS12 := newK2 hHeld44 | have hS12 := newK2d hHeld44
    clear hK K
    try clear hb
    try simp only [Act.put, List.setIfInBounds_toArray, List.set_cons_zero, List.set_cons_succ]
    generalize hGWA33 : World.alloc w8 (.cells #[.int .i64 0, .int .u64 0] 41) = WA33 at *
    clear hGWA33
    refine wpAnyH_ready (rs := [4, 10]) (by kernel_rfl) (by simp) ?_
    refine AllReadyH.cons (o := ⟨some 69, _, _, _, _, _⟩) rfl (fun K hK => ?_) ?_
    go_simp
    (first | ((with_reducible refine (M1.out _).mono ?_); rintro en wa ⟨rfl, hb⟩) | ((with_reducible refine (M2.out _).mono ?_); rintro en wb ⟨rfl, hb⟩))
    refine hK.out _ _ (hHeld44.next hb) (fun hHeld45 => ?_)
    replace hS12 := hS12.next hb
    clear hK K
    try clear hb
    try simp only [Act.put, List.setIfInBounds_toArray, List.set_cons_zero, List.set_cons_succ]
    refine wpAnyH_ready (rs := [9, 10]) (by kernel_rfl) (by simp) ?_
    refine AllReadyH.cons (o := ⟨some 74, _, _, _, _, _⟩) rfl (fun K hK => ?_) ?_
    go_simp
    (first | ((with_reducible refine (M1.out _).mono ?_); rintro en wa ⟨rfl, hb⟩) | ((with_reducible refine (M2.out _).mono ?_); rintro en wb ⟨rfl, hb⟩))
    refine hK.out _ _ (hHeld45.next hb) (fun hHeld46 => ?_)
    replace hS12 := hS12.next hb
    clear hK K
    try clear hb
    try simp only [Act.put, List.setIfInBounds_toArray, List.set_cons_zero, List.set_cons_succ]
    refine wpAnyH_ready (rs := [10]) (by kernel_rfl) (by simp) ?_
    refine AllReadyH.cons (o := ⟨some 11, _, _, _, _, _⟩) rfl (fun K hK => ?_) AllReadyH.nil
    have hne12_11 := hS12.2.1.1
    have lo11 := hHeld46.1.size
    obtain ⟨⟨a11_z0, a11_c0, a11_f0⟩, ⟨a11_z1, a11_c1, a11_f1⟩, ⟨a11_z2, a11_c2, a11_f2⟩, ⟨a11_z3, a11_c3, a11_f3⟩, ⟨a11_z4, a11_c4, a11_f4⟩, ⟨a11_z5, a11_c5, a11_f5⟩, ⟨a11_z6, a11_c6, a11_f6⟩, ⟨a11_z7, a11_c7, a11_f7⟩, ⟨a11_z8, a11_c8, a11_f8⟩, ⟨a11_z9, a11_c9, a11_f9⟩, ⟨a11_z10, a11_c10, a11_f10⟩, ⟨a11_z11, a11_c11, a11_f11⟩, _⟩ := hHeld46.2
    (try simp at lo11); (try simp at hne12_11); (try simp at a11_z0); (try simp at a11_z1); (try simp at a11_z2); (try simp at a11_z3); (try simp at a11_z4); (try simp at a11_z5); (try simp at a11_z6); (try simp at a11_z7); (try simp at a11_z8); (try simp at a11_z9); (try simp at a11_z10); (try simp at a11_z11)
    go_simp
    refine hK.out _ _ (by first | exact hHeld46.alloc _ | exact (hHeld46.alloc _).drew) (fun hHeld47 => ?_)
    first | replace hS12 := hS12.alloc2e hHeld47 | replace hS12 := hS12.alloc2 hHeld47
    first | have hS11 := newK2 hHeld47 | have hS11 := newK2d hHeld47
    clear hK K
    try clear hb
    try simp only [Act.put, List.setIfInBounds_toArray, List.set_cons_zero, List.set_cons_succ]
    generalize hGWA34 : World.alloc wb (.cells #[.int .i64 0, .int .u64 0] 41) = WA34 at *
    clear hGWA34
    refine wpAnyH_ready (rs := [12]) (by kernel_rfl) (by simp) ?_
    refine AllReadyH.cons (o := ⟨none, _, _, _, _, _⟩) rfl (fun K hK => ?_) AllReadyH.nil
    obtain ⟨⟨s11z0, s11c0, s11f0⟩, ⟨s11z1, s11c1, s11f1⟩, _⟩ := hS11.2
    go_simp
    refine hK.out _ _ (by (repeat (first | (with_reducible exact hHeld47) | (refine Keeps.set ?_ (by simp <;> omega) (by simp <;> omega) _)))) (fun hHeld48 => ?_)
    replace hS12 := hS12.mv2 hHeld48 (by first | omega | (simp <;> omega)) (by simp <;> omega)
    replace hS11 := hHeld48.add2 s11z0 s11c0 s11f0 s11c1 s11f1
    clear s11z0 s11c0 s11f0 s11z1 s11c1 s11f1
    clear hK K
    try clear hb
    try simp only [Act.put, List.setIfInBounds_toArray, List.set_cons_zero, List.set_cons_succ]
    generalize hGWA35 : World.setCell (World.setCell WA34 ⟨wb.heap.size, 0, none⟩ (.int .i64 j0)) ⟨wb.heap.size, 1, none⟩ (.int .u64 j1) = WA35 at *
    clear hGWA35
    refine wpAnyH_ready (rs := [13]) (by kernel_rfl) (by simp) ?_
    refine AllReadyH.cons (o := ⟨none, _, _, _, _, _⟩) rfl (fun K hK => ?_) AllReadyH.nil
    obtain ⟨⟨s12z0, s12c0, s12f0⟩, ⟨s12z1, s12c1, s12f1⟩, _⟩ := hS12.2
    go_simp
    refine hK.out _ _ (by (repeat (first | (with_reducible exact hHeld48) | (refine Keeps.set ?_ (by simp <;> omega) (by simp <;> omega) _)))) (fun hHeld49 => ?_)
    replace hS11 := hS11.mv2 hHeld49 (by first | omega | (simp <;> omega)) (by simp <;> omega)
    replace hS12 := hHeld49.add2 s12z0 s12c0 s12f0 s12c1 s12f1
    clear s12z0 s12c0 s12f0 s12z1 s12c1 s12f1
    clear hK K
    try clear hb
    try simp only [Act.put, List.setIfInBounds_toArray, List.set_cons_zero, List.set_cons_succ]
    generalize hGWA36 : World.setCell (World.setCell WA35 ⟨w8.heap.size, 0, none⟩ (.int .i64 j2)) ⟨w8.heap.size, 1, none⟩ (.int .u64 j3) = WA36 at *
    clear hGWA36
    refine wpAnyH_done (by kernel_rfl) ?_ _
    have hHeld := hHeld49
    rotate_left 1
    refine AllReadyH.cons (o := ⟨some 11, _, _, _, _, _⟩) rfl (fun K hK => ?_) ?_
    have hne12_11 := hS12.2.1.1
    have lo11 := hHeld45.1.size
    obtain ⟨⟨a11_z0, a11_c0, a11_f0⟩, ⟨a11_z1, a11_c1, a11_f1⟩, ⟨a11_z2, a11_c2, a11_f2⟩, ⟨a11_z3, a11_c3, a11_f3⟩, ⟨a11_z4, a11_c4, a11_f4⟩, ⟨a11_z5, a11_c5, a11_f5⟩, ⟨a11_z6, a11_c6, a11_f6⟩, ⟨a11_z7, a11_c7, a11_f7⟩, ⟨a11_z8, a11_c8, a11_f8⟩, ⟨a11_z9, a11_c9, a11_f9⟩, ⟨a11_z10, a11_c10, a11_f10⟩, ⟨a11_z11, a11_c11, a11_f11⟩, _⟩ := hHeld45.2
    (try simp at lo11); (try simp at hne12_11); (try simp at a11_z0); (try simp at a11_z1); (try simp at a11_z2); (try simp at a11_z3); (try simp at a11_z4); (try simp at a11_z5); (try simp at a11_z6); (try simp at a11_z7); (try simp at a11_z8); (try simp at a11_z9); (try simp at a11_z10); (try simp at a11_z11)
    go_simp
    refine hK.out _ _ (by first | exact hHeld45.alloc _ | exact (hHeld45.alloc _).drew) (fun hHeld50 => ?_)
    first | replace hS12 := hS12.alloc2e hHeld50 | replace hS12 := hS12.alloc2 hHeld50
    first | have hS11 := newK2 hHeld50 | have hS11 := newK2d hHeld50
    clear hK K
    try clear hb
    try simp only [Act.put, List.setIfInBounds_toArray, List.set_cons_zero, List.set_cons_succ]
    generalize hGWA37 : World.alloc wa (.cells #[.int .i64 0, .int .u64 0] 41) = WA37 at *
    clear hGWA37
    refine wpAnyH_ready (rs := [9]) (by kernel_rfl) (by simp) ?_
    refine AllReadyH.cons (o := ⟨some 74, _, _, _, _, _⟩) rfl (fun K hK => ?_) AllReadyH.nil
    go_simp
    (first | ((with_reducible refine (M1.out _).mono ?_); rintro en wa ⟨rfl, hb⟩) | ((with_reducible refine (M2.out _).mono ?_); rintro en wb ⟨rfl, hb⟩))
    refine hK.out _ _ (hHeld50.next hb) (fun hHeld51 => ?_)
    replace hS12 := hS12.next hb
    replace hS11 := hS11.next hb
    clear hK K
    try clear hb
    try simp only [Act.put, List.setIfInBounds_toArray, List.set_cons_zero, List.set_cons_succ]
    refine wpAnyH_ready (rs := [12]) (by kernel_rfl) (by simp) ?_
    refine AllReadyH.cons (o := ⟨none, _, _, _, _, _⟩) rfl (fun K hK => ?_) AllReadyH.nil
    obtain ⟨⟨s11z0, s11c0, s11f0⟩, ⟨s11z1, s11c1, s11f1⟩, _⟩ := hS11.2
    go_simp
    refine hK.out _ _ (by (repeat (first | (with_reducible exact hHeld51) | (refine Keeps.set ?_ (by simp <;> omega) (by simp <;> omega) _)))) (fun hHeld52 => ?_)
    replace hS12 := hS12.mv2 hHeld52 (by first | omega | (simp <;> omega)) (by simp <;> omega)
    replace hS11 := hHeld52.add2 s11z0 s11c0 s11f0 s11c1 s11f1
    clear s11z0 s11c0 s11f0 s11z1 s11c1 s11f1
    clear hK K
    try clear hb
    try simp only [Act.put, List.setIfInBounds_toArray, List.set_cons_zero, List.set_cons_succ]
    generalize hGWA38 : World.setCell (World.setCell wb ⟨wa.heap.size, 0, none⟩ (.int .i64 j0)) ⟨wa.heap.size, 1, none⟩ (.int .u64 j1) = WA38 at *
    clear hGWA38
    refine wpAnyH_ready (rs := [13]) (by kernel_rfl) (by simp) ?_
    refine AllReadyH.cons (o := ⟨none, _, _, _, _, _⟩) rfl (fun K hK => ?_) AllReadyH.nil
    obtain ⟨⟨s12z0, s12c0, s12f0⟩, ⟨s12z1, s12c1, s12f1⟩, _⟩ := hS12.2
    go_simp
    refine hK.out _ _ (by (repeat (first | (with_reducible exact hHeld52) | (refine Keeps.set ?_ (by simp <;> omega) (by simp <;> omega) _)))) (fun hHeld53 => ?_)
    replace hS11 := hS11.mv2 hHeld53 (by first | omega | (simp <;> omega)) (by simp <;> omega)
    replace hS12 := hHeld53.add2 s12z0 s12c0 s12f0 s12c1 s12f1
    clear s12z0 s12c0 s12f0 s12z1 s12c1 s12f1
    clear hK K
    try clear hb
    try simp only [Act.put, List.setIfInBounds_toArray, List.set_cons_zero, List.set_cons_succ]
    generalize hGWA39 : World.setCell (World.setCell WA38 ⟨w8.heap.size, 0, none⟩ (.int .i64 j2)) ⟨w8.heap.size, 1, none⟩ (.int .u64 j3) = WA39 at *
    clear hGWA39
    refine wpAnyH_done (by kernel_rfl) ?_ _
    have hHeld := hHeld53
    rotate_left 1
    exact AllReadyH.nil
    refine AllReadyH.cons (o := ⟨some 11, _, _, _, _, _⟩) rfl (fun K hK => ?_) ?_
    have hne12_11 := hS12.2.1.1
    have lo11 := hHeld44.1.size
    obtain ⟨⟨a11_z0, a11_c0, a11_f0⟩, ⟨a11_z1, a11_c1, a11_f1⟩, ⟨a11_z2, a11_c2, a11_f2⟩, ⟨a11_z3, a11_c3, a11_f3⟩, ⟨a11_z4, a11_c4, a11_f4⟩, ⟨a11_z5, a11_c5, a11_f5⟩, ⟨a11_z6, a11_c6, a11_f6⟩, ⟨a11_z7, a11_c7, a11_f7⟩, ⟨a11_z8, a11_c8, a11_f8⟩, ⟨a11_z9, a11_c9, a11_f9⟩, ⟨a11_z10, a11_c10, a11_f10⟩, ⟨a11_z11, a11_c11, a11_f11⟩, _⟩ := hHeld44.2
    (try simp at lo11); (try simp at hne12_11); (try simp at a11_z0); (try simp at a11_z1); (try simp at a11_z2); (try simp at a11_z3); (try simp at a11_z4); (try simp at a11_z5); (try simp at a11_z6); (try simp at a11_z7); (try simp at a11_z8); (try simp at a11_z9); (try simp at a11_z10); (try simp at a11_z11)
    go_simp
    refine hK.out _ _ (by first | exact hHeld44.alloc _ | exact (hHeld44.alloc _).drew) (fun hHeld54 => ?_)
    first | replace hS12 := hS12.alloc2e hHeld54 | replace hS12 := hS12.alloc2 hHeld54
    first | have hS11 := newK2 hHeld54 | have hS11 := newK2d hHeld54
    clear hK K
    try clear hb
    try simp only [Act.put, List.setIfInBounds_toArray, List.set_cons_zero, List.set_cons_succ]
    generalize hGWA40 : World.alloc WA33 (.cells #[.int .i64 0, .int .u64 0] 41) = WA40 at *
    clear hGWA40
    refine wpAnyH_ready (rs := [4]) (by kernel_rfl) (by simp) ?_
    refine AllReadyH.cons (o := ⟨some 69, _, _, _, _, _⟩) rfl (fun K hK => ?_) AllReadyH.nil
    go_simp
    (first | ((with_reducible refine (M1.out _).mono ?_); rintro en wa ⟨rfl, hb⟩) | ((with_reducible refine (M2.out _).mono ?_); rintro en wb ⟨rfl, hb⟩))
    refine hK.out _ _ (hHeld54.next hb) (fun hHeld55 => ?_)
    replace hS12 := hS12.next hb
    replace hS11 := hS11.next hb
    clear hK K
    try clear hb
    try simp only [Act.put, List.setIfInBounds_toArray, List.set_cons_zero, List.set_cons_succ]
    refine wpAnyH_ready (rs := [9]) (by kernel_rfl) (by simp) ?_
    refine AllReadyH.cons (o := ⟨some 74, _, _, _, _, _⟩) rfl (fun K hK => ?_) AllReadyH.nil
    go_simp
    (first | ((with_reducible refine (M1.out _).mono ?_); rintro en wa ⟨rfl, hb⟩) | ((with_reducible refine (M2.out _).mono ?_); rintro en wb ⟨rfl, hb⟩))
    refine hK.out _ _ (hHeld55.next hb) (fun hHeld56 => ?_)
    replace hS12 := hS12.next hb
    replace hS11 := hS11.next hb
    clear hK K
    try clear hb
    try simp only [Act.put, List.setIfInBounds_toArray, List.set_cons_zero, List.set_cons_succ]
    refine wpAnyH_ready (rs := [12]) (by kernel_rfl) (by simp) ?_
    refine AllReadyH.cons (o := ⟨none, _, _, _, _, _⟩) rfl (fun K hK => ?_) AllReadyH.nil
    obtain ⟨⟨s11z0, s11c0, s11f0⟩, ⟨s11z1, s11c1, s11f1⟩, _⟩ := hS11.2
    go_simp
    refine hK.out _ _ (by (repeat (first | (with_reducible exact hHeld56) | (refine Keeps.set ?_ (by simp <;> omega) (by simp <;> omega) _)))) (fun hHeld57 => ?_)
    replace hS12 := hS12.mv2 hHeld57 (by first | omega | (simp <;> omega)) (by simp <;> omega)
    replace hS11 := hHeld57.add2 s11z0 s11c0 s11f0 s11c1 s11f1
    clear s11z0 s11c0 s11f0 s11z1 s11c1 s11f1
    clear hK K
    try clear hb
    try simp only [Act.put, List.setIfInBounds_toArray, List.set_cons_zero, List.set_cons_succ]
    generalize hGWA41 : World.setCell (World.setCell wb ⟨WA33.heap.size, 0, none⟩ (.int .i64 j0)) ⟨WA33.heap.size, 1, none⟩ (.int .u64 j1) = WA41 at *
    clear hGWA41
    refine wpAnyH_ready (rs := [13]) (by kernel_rfl) (by simp) ?_
    refine AllReadyH.cons (o := ⟨none, _, _, _, _, _⟩) rfl (fun K hK => ?_) AllReadyH.nil
    obtain ⟨⟨s12z0, s12c0, s12f0⟩, ⟨s12z1, s12c1, s12f1⟩, _⟩ := hS12.2
    go_simp
    refine hK.out _ _ (by (repeat (first | (with_reducible exact hHeld57) | (refine Keeps.set ?_ (by simp <;> omega) (by simp <;> omega) _)))) (fun hHeld58 => ?_)
    replace hS11 := hS11.mv2 hHeld58 (by first | omega | (simp <;> omega)) (by simp <;> omega)
    replace hS12 := hHeld58.add2 s12z0 s12c0 s12f0 s12c1 s12f1
    clear s12z0 s12c0 s12f0 s12z1 s12c1 s12f1
    clear hK K
    try clear hb
    try simp only [Act.put, List.setIfInBounds_toArray, List.set_cons_zero, List.set_cons_succ]
    generalize hGWA42 : World.setCell (World.setCell WA41 ⟨w8.heap.size, 0, none⟩ (.int .i64 j2)) ⟨w8.heap.size, 1, none⟩ (.int .u64 j3) = WA42 at *
    clear hGWA42
    refine wpAnyH_done (by kernel_rfl) ?_ _
    have hHeld := hHeld58
    rotate_left 1
    exact AllReadyH.nil
    exact AllReadyH.nil
    all_goals
      go_wp2_with fail
      go_meet
      case rel =>
        obtain ⟨hb, s50, s51, q0, q1, q2, q3, q4, q5, q6, q7, q8, q9, q10, q11, _⟩ := hS11
        exact ⟨_, _, rfl, rfl, hb, s50, s51, hS12.2.1, hS12.2.2.1, q2, q3, q10, q11, trivial⟩
  case rest =>
    clear hHs M1 M2
    obtain ⟨g, g', rfl, rfl, hHs⟩ := hcut
    go_upto_region 11 with (fail)
    go_cut [13, 14] (fun s5 s6 wx => ∃ g1 g2 : Nat, s5 = .pointer (some ⟨g1, 0, none⟩) ∧ s6 = .pointer (some ⟨g2, 0, none⟩) ∧ Keeps w2 [(g1, 0, .int .i64 o0), (g1, 1, .int .u64 o1), (g2, 0, .int .i64 o2), (g2, 1, .int .u64 o3), (g, 0, .int .i64 j0), (g, 1, .int .u64 j1), (g', 0, .int .i64 j2), (g', 1, .int .u64 j3)] wx)
    case first =>
      refine region_keeps (w0 := w2) (L := [(g, 0, .int .i64 j0), (g, 1, .int .u64 j1), (g', 0, .int .i64 j2), (g', 1, .int .u64 j3), (ga + 1, 0, .int .i64 p3), (ga + 1, 1, .int .i64 p4), (w.heap.size, 2, .int .i64 n), (w.heap.size, 3, .int .i64 d)]) (by kernel_rfl) hHs (fun hHeld0 => ?_)
      refine wpAnyH_take (i := 0) (oi := ⟨some 75, _, _, _, _, _⟩) (v := ?_) rfl (by kernel_rfl) (by kernel_rfl) (by kernel_rfl) (fun _ _ _ h => h) (Or.inl ⟨by rfl, ?_⟩) (by assumption) ?_
      rotate_left
      · intro wq hSw; go_simp; (try with_reducible rfl)
      try simp only [Act.put, List.setIfInBounds_toArray, List.set_cons_zero, List.set_cons_succ]
      refine wpAnyH_take (i := 1) (oi := ⟨some 76, _, _, _, _, _⟩) (v := ?_) rfl (by kernel_rfl) (by kernel_rfl) (by kernel_rfl) (fun _ _ _ h => h) (Or.inl ⟨by rfl, ?_⟩) (by assumption) ?_
      rotate_left
      · intro wq hSw; obtain ⟨⟨qz0, qc0, qf0⟩, ⟨qz1, qc1, qf1⟩, ⟨qz2, qc2, qf2⟩, ⟨qz3, qc3, qf3⟩, ⟨qz4, qc4, qf4⟩, ⟨qz5, qc5, qf5⟩, ⟨qz6, qc6, qf6⟩, ⟨qz7, qc7, qf7⟩, _⟩ := hSw.2; go_simp; (try with_reducible rfl)
      try simp only [Act.put, List.setIfInBounds_toArray, List.set_cons_zero, List.set_cons_succ]
      refine wpAnyH_take (i := 2) (oi := ⟨some 77, _, _, _, _, _⟩) (v := ?_) rfl (by kernel_rfl) (by kernel_rfl) (by kernel_rfl) (fun _ _ _ h => h) (Or.inl ⟨by rfl, ?_⟩) (by assumption) ?_
      rotate_left
      · intro wq hSw; go_simp; (try with_reducible rfl)
      try simp only [Act.put, List.setIfInBounds_toArray, List.set_cons_zero, List.set_cons_succ]
      refine wpAnyH_take (i := 3) (oi := ⟨some 78, _, _, _, _, _⟩) (v := ?_) rfl (by kernel_rfl) (by kernel_rfl) (by kernel_rfl) (fun _ _ _ h => h) (Or.inl ⟨by rfl, ?_⟩) (by assumption) ?_
      rotate_left
      · intro wq hSw; obtain ⟨⟨qz0, qc0, qf0⟩, ⟨qz1, qc1, qf1⟩, ⟨qz2, qc2, qf2⟩, ⟨qz3, qc3, qf3⟩, ⟨qz4, qc4, qf4⟩, ⟨qz5, qc5, qf5⟩, ⟨qz6, qc6, qf6⟩, ⟨qz7, qc7, qf7⟩, _⟩ := hSw.2; go_simp; (try with_reducible rfl)
      try simp only [Act.put, List.setIfInBounds_toArray, List.set_cons_zero, List.set_cons_succ]
      refine wpAnyH_take (i := 5) (oi := ⟨some 80, _, _, _, _, _⟩) (v := ?_) rfl (by kernel_rfl) (by kernel_rfl) (by kernel_rfl) (fun _ _ _ h => h) (Or.inl ⟨by rfl, ?_⟩) (by assumption) ?_
      rotate_left
      · intro wq hSw; go_simp; (try with_reducible rfl)
      try simp only [Act.put, List.setIfInBounds_toArray, List.set_cons_zero, List.set_cons_succ]
      refine wpAnyH_take (i := 6) (oi := ⟨some 81, _, _, _, _, _⟩) (v := ?_) rfl (by kernel_rfl) (by kernel_rfl) (by kernel_rfl) (fun _ _ _ h => h) (Or.inl ⟨by rfl, ?_⟩) (by assumption) ?_
      rotate_left
      · intro wq hSw; obtain ⟨⟨qz0, qc0, qf0⟩, ⟨qz1, qc1, qf1⟩, ⟨qz2, qc2, qf2⟩, ⟨qz3, qc3, qf3⟩, ⟨qz4, qc4, qf4⟩, ⟨qz5, qc5, qf5⟩, ⟨qz6, qc6, qf6⟩, ⟨qz7, qc7, qf7⟩, _⟩ := hSw.2; go_simp; (try with_reducible rfl)
      try simp only [Act.put, List.setIfInBounds_toArray, List.set_cons_zero, List.set_cons_succ]
      refine wpAnyH_take (i := 7) (oi := ⟨some 82, _, _, _, _, _⟩) (v := ?_) rfl (by kernel_rfl) (by kernel_rfl) (by kernel_rfl) (fun _ _ _ h => h) (Or.inl ⟨by rfl, ?_⟩) (by assumption) ?_
      rotate_left
      · intro wq hSw; go_simp; (try with_reducible rfl)
      try simp only [Act.put, List.setIfInBounds_toArray, List.set_cons_zero, List.set_cons_succ]
      refine wpAnyH_take (i := 8) (oi := ⟨some 83, _, _, _, _, _⟩) (v := ?_) rfl (by kernel_rfl) (by kernel_rfl) (by kernel_rfl) (fun _ _ _ h => h) (Or.inl ⟨by rfl, ?_⟩) (by assumption) ?_
      rotate_left
      · intro wq hSw; obtain ⟨⟨qz0, qc0, qf0⟩, ⟨qz1, qc1, qf1⟩, ⟨qz2, qc2, qf2⟩, ⟨qz3, qc3, qf3⟩, ⟨qz4, qc4, qf4⟩, ⟨qz5, qc5, qf5⟩, ⟨qz6, qc6, qf6⟩, ⟨qz7, qc7, qf7⟩, _⟩ := hSw.2; go_simp; (try with_reducible rfl)
      try simp only [Act.put, List.setIfInBounds_toArray, List.set_cons_zero, List.set_cons_succ]
      refine wpAnyH_ready (rs := [4, 10, 11]) (by kernel_rfl) (by simp) ?_
      refine AllReadyH.cons (o := ⟨some 79, _, _, _, _, _⟩) rfl (fun K hK => ?_) ?_
      go_simp
      (first | ((with_reducible refine (M3.out _).mono ?_); rintro en wa ⟨rfl, hb⟩) | ((with_reducible refine (M4.out _).mono ?_); rintro en wb ⟨rfl, hb⟩))
      refine hK.out _ _ (hHeld0.next hb) (fun hHeld1 => ?_)
      clear hK K
      try clear hb
      try simp only [Act.put, List.setIfInBounds_toArray, List.set_cons_zero, List.set_cons_succ]
      refine wpAnyH_ready (rs := [9, 10, 11]) (by kernel_rfl) (by simp) ?_
      refine AllReadyH.cons (o := ⟨some 84, _, _, _, _, _⟩) rfl (fun K hK => ?_) ?_
      go_simp
      (first | ((with_reducible refine (M3.out _).mono ?_); rintro en wa ⟨rfl, hb⟩) | ((with_reducible refine (M4.out _).mono ?_); rintro en wb ⟨rfl, hb⟩))
      refine hK.out _ _ (hHeld1.next hb) (fun hHeld2 => ?_)
      clear hK K
      try clear hb
      try simp only [Act.put, List.setIfInBounds_toArray, List.set_cons_zero, List.set_cons_succ]
      refine wpAnyH_ready (rs := [10, 11]) (by kernel_rfl) (by simp) ?_
      refine AllReadyH.cons (o := ⟨some 13, _, _, _, _, _⟩) rfl (fun K hK => ?_) ?_
      have lo13 := hHeld2.1.size
      obtain ⟨⟨a13_z0, a13_c0, a13_f0⟩, ⟨a13_z1, a13_c1, a13_f1⟩, ⟨a13_z2, a13_c2, a13_f2⟩, ⟨a13_z3, a13_c3, a13_f3⟩, ⟨a13_z4, a13_c4, a13_f4⟩, ⟨a13_z5, a13_c5, a13_f5⟩, ⟨a13_z6, a13_c6, a13_f6⟩, ⟨a13_z7, a13_c7, a13_f7⟩, _⟩ := hHeld2.2
      (try simp at lo13); (try simp at a13_z0); (try simp at a13_z1); (try simp at a13_z2); (try simp at a13_z3); (try simp at a13_z4); (try simp at a13_z5); (try simp at a13_z6); (try simp at a13_z7)
      go_simp
      refine hK.out _ _ (by first | exact hHeld2.alloc _ | exact (hHeld2.alloc _).drew) (fun hHeld3 => ?_)
      first | have hS13 := newK2 hHeld3 | have hS13 := newK2d hHeld3
      clear hK K
      try clear hb
      try simp only [Act.put, List.setIfInBounds_toArray, List.set_cons_zero, List.set_cons_succ]
      generalize hGWA1 : World.alloc wb (.cells #[.int .i64 0, .int .u64 0] 41) = WA1 at *
      clear hGWA1
      refine wpAnyH_ready (rs := [11]) (by kernel_rfl) (by simp) ?_
      refine AllReadyH.cons (o := ⟨some 14, _, _, _, _, _⟩) rfl (fun K hK => ?_) AllReadyH.nil
      have hne13_14 := hS13.2.1.1
      have lo14 := hHeld3.1.size
      obtain ⟨⟨a14_z0, a14_c0, a14_f0⟩, ⟨a14_z1, a14_c1, a14_f1⟩, ⟨a14_z2, a14_c2, a14_f2⟩, ⟨a14_z3, a14_c3, a14_f3⟩, ⟨a14_z4, a14_c4, a14_f4⟩, ⟨a14_z5, a14_c5, a14_f5⟩, ⟨a14_z6, a14_c6, a14_f6⟩, ⟨a14_z7, a14_c7, a14_f7⟩, _⟩ := hHeld3.2
      (try simp at lo14); (try simp at hne13_14); (try simp at a14_z0); (try simp at a14_z1); (try simp at a14_z2); (try simp at a14_z3); (try simp at a14_z4); (try simp at a14_z5); (try simp at a14_z6); (try simp at a14_z7)
      go_simp
      refine hK.out _ _ (by first | exact hHeld3.alloc _ | exact (hHeld3.alloc _).drew) (fun hHeld4 => ?_)
      first | replace hS13 := hS13.alloc2e hHeld4 | replace hS13 := hS13.alloc2 hHeld4
      first | have hS14 := newK2 hHeld4 | have hS14 := newK2d hHeld4
      clear hK K
      try clear hb
      try simp only [Act.put, List.setIfInBounds_toArray, List.set_cons_zero, List.set_cons_succ]
      generalize hGWA2 : World.alloc WA1 (.cells #[.int .i64 0, .int .u64 0] 41) = WA2 at *
      clear hGWA2
      refine wpAnyH_ready (rs := [12]) (by kernel_rfl) (by simp) ?_
      refine AllReadyH.cons (o := ⟨none, _, _, _, _, _⟩) rfl (fun K hK => ?_) AllReadyH.nil
      obtain ⟨⟨s13z0, s13c0, s13f0⟩, ⟨s13z1, s13c1, s13f1⟩, _⟩ := hS13.2
      go_simp
      refine hK.out _ _ (by (repeat (first | (with_reducible exact hHeld4) | (refine Keeps.set ?_ (by simp <;> omega) (by simp <;> omega) _)))) (fun hHeld5 => ?_)
      replace hS14 := hS14.mv2 hHeld5 (by first | omega | (simp <;> omega)) (by simp <;> omega)
      replace hS13 := hHeld5.add2 s13z0 s13c0 s13f0 s13c1 s13f1
      clear s13z0 s13c0 s13f0 s13z1 s13c1 s13f1
      clear hK K
      try clear hb
      try simp only [Act.put, List.setIfInBounds_toArray, List.set_cons_zero, List.set_cons_succ]
      generalize hGWA3 : World.setCell (World.setCell WA2 ⟨wb.heap.size, 0, none⟩ (.int .i64 o0)) ⟨wb.heap.size, 1, none⟩ (.int .u64 o1) = WA3 at *
      clear hGWA3
      refine wpAnyH_ready (rs := [13]) (by kernel_rfl) (by simp) ?_
      refine AllReadyH.cons (o := ⟨none, _, _, _, _, _⟩) rfl (fun K hK => ?_) AllReadyH.nil
      obtain ⟨⟨s14z0, s14c0, s14f0⟩, ⟨s14z1, s14c1, s14f1⟩, _⟩ := hS14.2
      go_simp
      refine hK.out _ _ (by (repeat (first | (with_reducible exact hHeld5) | (refine Keeps.set ?_ (by simp <;> omega) (by simp <;> omega) _)))) (fun hHeld6 => ?_)
      replace hS13 := hS13.mv2 hHeld6 (by first | omega | (simp <;> omega)) (by simp <;> omega)
      replace hS14 := hHeld6.add2 s14z0 s14c0 s14f0 s14c1 s14f1
      clear s14z0 s14c0 s14f0 s14z1 s14c1 s14f1
      clear hK K
      try clear hb
      try simp only [Act.put, List.setIfInBounds_toArray, List.set_cons_zero, List.set_cons_succ]
      generalize hGWA4 : World.setCell (World.setCell WA3 ⟨WA1.heap.size, 0, none⟩ (.int .i64 o2)) ⟨WA1.heap.size, 1, none⟩ (.int .u64 o3) = WA4 at *
      clear hGWA4
      refine wpAnyH_done (by kernel_rfl) ?_ _
      have hHeld := hHeld6
      rotate_left 1
      refine AllReadyH.cons (o := ⟨some 14, _, _, _, _, _⟩) rfl (fun K hK => ?_) ?_
      have lo14 := hHeld2.1.size
      obtain ⟨⟨a14_z0, a14_c0, a14_f0⟩, ⟨a14_z1, a14_c1, a14_f1⟩, ⟨a14_z2, a14_c2, a14_f2⟩, ⟨a14_z3, a14_c3, a14_f3⟩, ⟨a14_z4, a14_c4, a14_f4⟩, ⟨a14_z5, a14_c5, a14_f5⟩, ⟨a14_z6, a14_c6, a14_f6⟩, ⟨a14_z7, a14_c7, a14_f7⟩, _⟩ := hHeld2.2
      (try simp at lo14); (try simp at a14_z0); (try simp at a14_z1); (try simp at a14_z2); (try simp at a14_z3); (try simp at a14_z4); (try simp at a14_z5); (try simp at a14_z6); (try simp at a14_z7)
      go_simp
      refine hK.out _ _ (by first | exact hHeld2.alloc _ | exact (hHeld2.alloc _).drew) (fun hHeld7 => ?_)
      first | have hS14 := newK2 hHeld7 | have hS14 := newK2d hHeld7
      clear hK K
      try clear hb
      try simp only [Act.put, List.setIfInBounds_toArray, List.set_cons_zero, List.set_cons_succ]
      generalize hGWA5 : World.alloc wb (.cells #[.int .i64 0, .int .u64 0] 41) = WA5 at *
      clear hGWA5
      refine wpAnyH_ready (rs := [10]) (by kernel_rfl) (by simp) ?_
      refine AllReadyH.cons (o := ⟨some 13, _, _, _, _, _⟩) rfl (fun K hK => ?_) AllReadyH.nil
      have hne14_13 := hS14.2.1.1
      have lo13 := hHeld7.1.size
      obtain ⟨⟨a13_z0, a13_c0, a13_f0⟩, ⟨a13_z1, a13_c1, a13_f1⟩, ⟨a13_z2, a13_c2, a13_f2⟩, ⟨a13_z3, a13_c3, a13_f3⟩, ⟨a13_z4, a13_c4, a13_f4⟩, ⟨a13_z5, a13_c5, a13_f5⟩, ⟨a13_z6, a13_c6, a13_f6⟩, ⟨a13_z7, a13_c7, a13_f7⟩, _⟩ := hHeld7.2
      (try simp at lo13); (try simp at hne14_13); (try simp at a13_z0); (try simp at a13_z1); (try simp at a13_z2); (try simp at a13_z3); (try simp at a13_z4); (try simp at a13_z5); (try simp at a13_z6); (try simp at a13_z7)
      go_simp
      refine hK.out _ _ (by first | exact hHeld7.alloc _ | exact (hHeld7.alloc _).drew) (fun hHeld8 => ?_)
      first | replace hS14 := hS14.alloc2e hHeld8 | replace hS14 := hS14.alloc2 hHeld8
      first | have hS13 := newK2 hHeld8 | have hS13 := newK2d hHeld8
      clear hK K
      try clear hb
      try simp only [Act.put, List.setIfInBounds_toArray, List.set_cons_zero, List.set_cons_succ]
      generalize hGWA6 : World.alloc WA5 (.cells #[.int .i64 0, .int .u64 0] 41) = WA6 at *
      clear hGWA6
      refine wpAnyH_ready (rs := [12]) (by kernel_rfl) (by simp) ?_
      refine AllReadyH.cons (o := ⟨none, _, _, _, _, _⟩) rfl (fun K hK => ?_) AllReadyH.nil
      obtain ⟨⟨s13z0, s13c0, s13f0⟩, ⟨s13z1, s13c1, s13f1⟩, _⟩ := hS13.2
      go_simp
      refine hK.out _ _ (by (repeat (first | (with_reducible exact hHeld8) | (refine Keeps.set ?_ (by simp <;> omega) (by simp <;> omega) _)))) (fun hHeld9 => ?_)
      replace hS14 := hS14.mv2 hHeld9 (by first | omega | (simp <;> omega)) (by simp <;> omega)
      replace hS13 := hHeld9.add2 s13z0 s13c0 s13f0 s13c1 s13f1
      clear s13z0 s13c0 s13f0 s13z1 s13c1 s13f1
      clear hK K
      try clear hb
      try simp only [Act.put, List.setIfInBounds_toArray, List.set_cons_zero, List.set_cons_succ]
      generalize hGWA7 : World.setCell (World.setCell WA6 ⟨WA5.heap.size, 0, none⟩ (.int .i64 o0)) ⟨WA5.heap.size, 1, none⟩ (.int .u64 o1) = WA7 at *
      clear hGWA7
      refine wpAnyH_ready (rs := [13]) (by kernel_rfl) (by simp) ?_
      refine AllReadyH.cons (o := ⟨none, _, _, _, _, _⟩) rfl (fun K hK => ?_) AllReadyH.nil
      obtain ⟨⟨s14z0, s14c0, s14f0⟩, ⟨s14z1, s14c1, s14f1⟩, _⟩ := hS14.2
      go_simp
      refine hK.out _ _ (by (repeat (first | (with_reducible exact hHeld9) | (refine Keeps.set ?_ (by simp <;> omega) (by simp <;> omega) _)))) (fun hHeld10 => ?_)
      replace hS13 := hS13.mv2 hHeld10 (by first | omega | (simp <;> omega)) (by simp <;> omega)
      replace hS14 := hHeld10.add2 s14z0 s14c0 s14f0 s14c1 s14f1
      clear s14z0 s14c0 s14f0 s14z1 s14c1 s14f1
      clear hK K
      try clear hb
      try simp only [Act.put, List.setIfInBounds_toArray, List.set_cons_zero, List.set_cons_succ]
      generalize hGWA8 : World.setCell (World.setCell WA7 ⟨wb.heap.size, 0, none⟩ (.int .i64 o2)) ⟨wb.heap.size, 1, none⟩ (.int .u64 o3) = WA8 at *
      clear hGWA8
      refine wpAnyH_done (by kernel_rfl) ?_ _
      have hHeld := hHeld10
      rotate_left 1
      exact AllReadyH.nil
      refine AllReadyH.cons (o := ⟨some 13, _, _, _, _, _⟩) rfl (fun K hK => ?_) ?_
      have lo13 := hHeld1.1.size
      obtain ⟨⟨a13_z0, a13_c0, a13_f0⟩, ⟨a13_z1, a13_c1, a13_f1⟩, ⟨a13_z2, a13_c2, a13_f2⟩, ⟨a13_z3, a13_c3, a13_f3⟩, ⟨a13_z4, a13_c4, a13_f4⟩, ⟨a13_z5, a13_c5, a13_f5⟩, ⟨a13_z6, a13_c6, a13_f6⟩, ⟨a13_z7, a13_c7, a13_f7⟩, _⟩ := hHeld1.2
      (try simp at lo13); (try simp at a13_z0); (try simp at a13_z1); (try simp at a13_z2); (try simp at a13_z3); (try simp at a13_z4); (try simp at a13_z5); (try simp at a13_z6); (try simp at a13_z7)
      go_simp
      refine hK.out _ _ (by first | exact hHeld1.alloc _ | exact (hHeld1.alloc _).drew) (fun hHeld11 => ?_)
      first | have hS13 := newK2 hHeld11 | have hS13 := newK2d hHeld11
      clear hK K
      try clear hb
      try simp only [Act.put, List.setIfInBounds_toArray, List.set_cons_zero, List.set_cons_succ]
      generalize hGWA9 : World.alloc wa (.cells #[.int .i64 0, .int .u64 0] 41) = WA9 at *
      clear hGWA9
      refine wpAnyH_ready (rs := [9, 11]) (by kernel_rfl) (by simp) ?_
      refine AllReadyH.cons (o := ⟨some 84, _, _, _, _, _⟩) rfl (fun K hK => ?_) ?_
      go_simp
      (first | ((with_reducible refine (M3.out _).mono ?_); rintro en wa ⟨rfl, hb⟩) | ((with_reducible refine (M4.out _).mono ?_); rintro en wb ⟨rfl, hb⟩))
      refine hK.out _ _ (hHeld11.next hb) (fun hHeld12 => ?_)
      replace hS13 := hS13.next hb
      clear hK K
      try clear hb
      try simp only [Act.put, List.setIfInBounds_toArray, List.set_cons_zero, List.set_cons_succ]
      refine wpAnyH_ready (rs := [11]) (by kernel_rfl) (by simp) ?_
      refine AllReadyH.cons (o := ⟨some 14, _, _, _, _, _⟩) rfl (fun K hK => ?_) AllReadyH.nil
      have hne13_14 := hS13.2.1.1
      have lo14 := hHeld12.1.size
      obtain ⟨⟨a14_z0, a14_c0, a14_f0⟩, ⟨a14_z1, a14_c1, a14_f1⟩, ⟨a14_z2, a14_c2, a14_f2⟩, ⟨a14_z3, a14_c3, a14_f3⟩, ⟨a14_z4, a14_c4, a14_f4⟩, ⟨a14_z5, a14_c5, a14_f5⟩, ⟨a14_z6, a14_c6, a14_f6⟩, ⟨a14_z7, a14_c7, a14_f7⟩, _⟩ := hHeld12.2
      (try simp at lo14); (try simp at hne13_14); (try simp at a14_z0); (try simp at a14_z1); (try simp at a14_z2); (try simp at a14_z3); (try simp at a14_z4); (try simp at a14_z5); (try simp at a14_z6); (try simp at a14_z7)
      go_simp
      refine hK.out _ _ (by first | exact hHeld12.alloc _ | exact (hHeld12.alloc _).drew) (fun hHeld13 => ?_)
      first | replace hS13 := hS13.alloc2e hHeld13 | replace hS13 := hS13.alloc2 hHeld13
      first | have hS14 := newK2 hHeld13 | have hS14 := newK2d hHeld13
      clear hK K
      try clear hb
      try simp only [Act.put, List.setIfInBounds_toArray, List.set_cons_zero, List.set_cons_succ]
      generalize hGWA10 : World.alloc wb (.cells #[.int .i64 0, .int .u64 0] 41) = WA10 at *
      clear hGWA10
      refine wpAnyH_ready (rs := [12]) (by kernel_rfl) (by simp) ?_
      refine AllReadyH.cons (o := ⟨none, _, _, _, _, _⟩) rfl (fun K hK => ?_) AllReadyH.nil
      obtain ⟨⟨s13z0, s13c0, s13f0⟩, ⟨s13z1, s13c1, s13f1⟩, _⟩ := hS13.2
      go_simp
      refine hK.out _ _ (by (repeat (first | (with_reducible exact hHeld13) | (refine Keeps.set ?_ (by simp <;> omega) (by simp <;> omega) _)))) (fun hHeld14 => ?_)
      replace hS14 := hS14.mv2 hHeld14 (by first | omega | (simp <;> omega)) (by simp <;> omega)
      replace hS13 := hHeld14.add2 s13z0 s13c0 s13f0 s13c1 s13f1
      clear s13z0 s13c0 s13f0 s13z1 s13c1 s13f1
      clear hK K
      try clear hb
      try simp only [Act.put, List.setIfInBounds_toArray, List.set_cons_zero, List.set_cons_succ]
      generalize hGWA11 : World.setCell (World.setCell WA10 ⟨wa.heap.size, 0, none⟩ (.int .i64 o0)) ⟨wa.heap.size, 1, none⟩ (.int .u64 o1) = WA11 at *
      clear hGWA11
      refine wpAnyH_ready (rs := [13]) (by kernel_rfl) (by simp) ?_
      refine AllReadyH.cons (o := ⟨none, _, _, _, _, _⟩) rfl (fun K hK => ?_) AllReadyH.nil
      obtain ⟨⟨s14z0, s14c0, s14f0⟩, ⟨s14z1, s14c1, s14f1⟩, _⟩ := hS14.2
      go_simp
      refine hK.out _ _ (by (repeat (first | (with_reducible exact hHeld14) | (refine Keeps.set ?_ (by simp <;> omega) (by simp <;> omega) _)))) (fun hHeld15 => ?_)
      replace hS13 := hS13.mv2 hHeld15 (by first | omega | (simp <;> omega)) (by simp <;> omega)
      replace hS14 := hHeld15.add2 s14z0 s14c0 s14f0 s14c1 s14f1
      clear s14z0 s14c0 s14f0 s14z1 s14c1 s14f1
      clear hK K
      try clear hb
      try simp only [Act.put, List.setIfInBounds_toArray, List.set_cons_zero, List.set_cons_succ]
      generalize hGWA12 : World.setCell (World.setCell WA11 ⟨wb.heap.size, 0, none⟩ (.int .i64 o2)) ⟨wb.heap.size, 1, none⟩ (.int .u64 o3) = WA12 at *
      clear hGWA12
      refine wpAnyH_done (by kernel_rfl) ?_ _
      have hHeld := hHeld15
      rotate_left 1
      refine AllReadyH.cons (o := ⟨some 14, _, _, _, _, _⟩) rfl (fun K hK => ?_) ?_
      have hne13_14 := hS13.2.1.1
      have lo14 := hHeld11.1.size
      obtain ⟨⟨a14_z0, a14_c0, a14_f0⟩, ⟨a14_z1, a14_c1, a14_f1⟩, ⟨a14_z2, a14_c2, a14_f2⟩, ⟨a14_z3, a14_c3, a14_f3⟩, ⟨a14_z4, a14_c4, a14_f4⟩, ⟨a14_z5, a14_c5, a14_f5⟩, ⟨a14_z6, a14_c6, a14_f6⟩, ⟨a14_z7, a14_c7, a14_f7⟩, _⟩ := hHeld11.2
      (try simp at lo14); (try simp at hne13_14); (try simp at a14_z0); (try simp at a14_z1); (try simp at a14_z2); (try simp at a14_z3); (try simp at a14_z4); (try simp at a14_z5); (try simp at a14_z6); (try simp at a14_z7)
      go_simp
      refine hK.out _ _ (by first | exact hHeld11.alloc _ | exact (hHeld11.alloc _).drew) (fun hHeld16 => ?_)
      first | replace hS13 := hS13.alloc2e hHeld16 | replace hS13 := hS13.alloc2 hHeld16
      first | have hS14 := newK2 hHeld16 | have hS14 := newK2d hHeld16
      clear hK K
      try clear hb
      try simp only [Act.put, List.setIfInBounds_toArray, List.set_cons_zero, List.set_cons_succ]
      generalize hGWA13 : World.alloc WA9 (.cells #[.int .i64 0, .int .u64 0] 41) = WA13 at *
      clear hGWA13
      refine wpAnyH_ready (rs := [9]) (by kernel_rfl) (by simp) ?_
      refine AllReadyH.cons (o := ⟨some 84, _, _, _, _, _⟩) rfl (fun K hK => ?_) AllReadyH.nil
      go_simp
      (first | ((with_reducible refine (M3.out _).mono ?_); rintro en wa ⟨rfl, hb⟩) | ((with_reducible refine (M4.out _).mono ?_); rintro en wb ⟨rfl, hb⟩))
      refine hK.out _ _ (hHeld16.next hb) (fun hHeld17 => ?_)
      replace hS13 := hS13.next hb
      replace hS14 := hS14.next hb
      clear hK K
      try clear hb
      try simp only [Act.put, List.setIfInBounds_toArray, List.set_cons_zero, List.set_cons_succ]
      refine wpAnyH_ready (rs := [12]) (by kernel_rfl) (by simp) ?_
      refine AllReadyH.cons (o := ⟨none, _, _, _, _, _⟩) rfl (fun K hK => ?_) AllReadyH.nil
      obtain ⟨⟨s13z0, s13c0, s13f0⟩, ⟨s13z1, s13c1, s13f1⟩, _⟩ := hS13.2
      go_simp
      refine hK.out _ _ (by (repeat (first | (with_reducible exact hHeld17) | (refine Keeps.set ?_ (by simp <;> omega) (by simp <;> omega) _)))) (fun hHeld18 => ?_)
      replace hS14 := hS14.mv2 hHeld18 (by first | omega | (simp <;> omega)) (by simp <;> omega)
      replace hS13 := hHeld18.add2 s13z0 s13c0 s13f0 s13c1 s13f1
      clear s13z0 s13c0 s13f0 s13z1 s13c1 s13f1
      clear hK K
      try clear hb
      try simp only [Act.put, List.setIfInBounds_toArray, List.set_cons_zero, List.set_cons_succ]
      generalize hGWA14 : World.setCell (World.setCell wb ⟨wa.heap.size, 0, none⟩ (.int .i64 o0)) ⟨wa.heap.size, 1, none⟩ (.int .u64 o1) = WA14 at *
      clear hGWA14
      refine wpAnyH_ready (rs := [13]) (by kernel_rfl) (by simp) ?_
      refine AllReadyH.cons (o := ⟨none, _, _, _, _, _⟩) rfl (fun K hK => ?_) AllReadyH.nil
      obtain ⟨⟨s14z0, s14c0, s14f0⟩, ⟨s14z1, s14c1, s14f1⟩, _⟩ := hS14.2
      go_simp
      refine hK.out _ _ (by (repeat (first | (with_reducible exact hHeld18) | (refine Keeps.set ?_ (by simp <;> omega) (by simp <;> omega) _)))) (fun hHeld19 => ?_)
      replace hS13 := hS13.mv2 hHeld19 (by first | omega | (simp <;> omega)) (by simp <;> omega)
      replace hS14 := hHeld19.add2 s14z0 s14c0 s14f0 s14c1 s14f1
      clear s14z0 s14c0 s14f0 s14z1 s14c1 s14f1
      clear hK K
      try clear hb
      try simp only [Act.put, List.setIfInBounds_toArray, List.set_cons_zero, List.set_cons_succ]
      generalize hGWA15 : World.setCell (World.setCell WA14 ⟨WA9.heap.size, 0, none⟩ (.int .i64 o2)) ⟨WA9.heap.size, 1, none⟩ (.int .u64 o3) = WA15 at *
      clear hGWA15
      refine wpAnyH_done (by kernel_rfl) ?_ _
      have hHeld := hHeld19
      rotate_left 1
      exact AllReadyH.nil
      refine AllReadyH.cons (o := ⟨some 14, _, _, _, _, _⟩) rfl (fun K hK => ?_) ?_
      have lo14 := hHeld1.1.size
      obtain ⟨⟨a14_z0, a14_c0, a14_f0⟩, ⟨a14_z1, a14_c1, a14_f1⟩, ⟨a14_z2, a14_c2, a14_f2⟩, ⟨a14_z3, a14_c3, a14_f3⟩, ⟨a14_z4, a14_c4, a14_f4⟩, ⟨a14_z5, a14_c5, a14_f5⟩, ⟨a14_z6, a14_c6, a14_f6⟩, ⟨a14_z7, a14_c7, a14_f7⟩, _⟩ := hHeld1.2
      (try simp at lo14); (try simp at a14_z0); (try simp at a14_z1); (try simp at a14_z2); (try simp at a14_z3); (try simp at a14_z4); (try simp at a14_z5); (try simp at a14_z6); (try simp at a14_z7)
      go_simp
      refine hK.out _ _ (by first | exact hHeld1.alloc _ | exact (hHeld1.alloc _).drew) (fun hHeld20 => ?_)
      first | have hS14 := newK2 hHeld20 | have hS14 := newK2d hHeld20
      clear hK K
      try clear hb
      try simp only [Act.put, List.setIfInBounds_toArray, List.set_cons_zero, List.set_cons_succ]
      generalize hGWA16 : World.alloc wa (.cells #[.int .i64 0, .int .u64 0] 41) = WA16 at *
      clear hGWA16
      refine wpAnyH_ready (rs := [9, 10]) (by kernel_rfl) (by simp) ?_
      refine AllReadyH.cons (o := ⟨some 84, _, _, _, _, _⟩) rfl (fun K hK => ?_) ?_
      go_simp
      (first | ((with_reducible refine (M3.out _).mono ?_); rintro en wa ⟨rfl, hb⟩) | ((with_reducible refine (M4.out _).mono ?_); rintro en wb ⟨rfl, hb⟩))
      refine hK.out _ _ (hHeld20.next hb) (fun hHeld21 => ?_)
      replace hS14 := hS14.next hb
      clear hK K
      try clear hb
      try simp only [Act.put, List.setIfInBounds_toArray, List.set_cons_zero, List.set_cons_succ]
      refine wpAnyH_ready (rs := [10]) (by kernel_rfl) (by simp) ?_
      refine AllReadyH.cons (o := ⟨some 13, _, _, _, _, _⟩) rfl (fun K hK => ?_) AllReadyH.nil
      have hne14_13 := hS14.2.1.1
      have lo13 := hHeld21.1.size
      obtain ⟨⟨a13_z0, a13_c0, a13_f0⟩, ⟨a13_z1, a13_c1, a13_f1⟩, ⟨a13_z2, a13_c2, a13_f2⟩, ⟨a13_z3, a13_c3, a13_f3⟩, ⟨a13_z4, a13_c4, a13_f4⟩, ⟨a13_z5, a13_c5, a13_f5⟩, ⟨a13_z6, a13_c6, a13_f6⟩, ⟨a13_z7, a13_c7, a13_f7⟩, _⟩ := hHeld21.2
      (try simp at lo13); (try simp at hne14_13); (try simp at a13_z0); (try simp at a13_z1); (try simp at a13_z2); (try simp at a13_z3); (try simp at a13_z4); (try simp at a13_z5); (try simp at a13_z6); (try simp at a13_z7)
      go_simp
      refine hK.out _ _ (by first | exact hHeld21.alloc _ | exact (hHeld21.alloc _).drew) (fun hHeld22 => ?_)
      first | replace hS14 := hS14.alloc2e hHeld22 | replace hS14 := hS14.alloc2 hHeld22
      first | have hS13 := newK2 hHeld22 | have hS13 := newK2d hHeld22
      clear hK K
      try clear hb
      try simp only [Act.put, List.setIfInBounds_toArray, List.set_cons_zero, List.set_cons_succ]
      generalize hGWA17 : World.alloc wb (.cells #[.int .i64 0, .int .u64 0] 41) = WA17 at *
      clear hGWA17
      refine wpAnyH_ready (rs := [12]) (by kernel_rfl) (by simp) ?_
      refine AllReadyH.cons (o := ⟨none, _, _, _, _, _⟩) rfl (fun K hK => ?_) AllReadyH.nil
      obtain ⟨⟨s13z0, s13c0, s13f0⟩, ⟨s13z1, s13c1, s13f1⟩, _⟩ := hS13.2
      go_simp
      refine hK.out _ _ (by (repeat (first | (with_reducible exact hHeld22) | (refine Keeps.set ?_ (by simp <;> omega) (by simp <;> omega) _)))) (fun hHeld23 => ?_)
      replace hS14 := hS14.mv2 hHeld23 (by first | omega | (simp <;> omega)) (by simp <;> omega)
      replace hS13 := hHeld23.add2 s13z0 s13c0 s13f0 s13c1 s13f1
      clear s13z0 s13c0 s13f0 s13z1 s13c1 s13f1
      clear hK K
      try clear hb
      try simp only [Act.put, List.setIfInBounds_toArray, List.set_cons_zero, List.set_cons_succ]
      generalize hGWA18 : World.setCell (World.setCell WA17 ⟨wb.heap.size, 0, none⟩ (.int .i64 o0)) ⟨wb.heap.size, 1, none⟩ (.int .u64 o1) = WA18 at *
      clear hGWA18
      refine wpAnyH_ready (rs := [13]) (by kernel_rfl) (by simp) ?_
      refine AllReadyH.cons (o := ⟨none, _, _, _, _, _⟩) rfl (fun K hK => ?_) AllReadyH.nil
      obtain ⟨⟨s14z0, s14c0, s14f0⟩, ⟨s14z1, s14c1, s14f1⟩, _⟩ := hS14.2
      go_simp
      refine hK.out _ _ (by (repeat (first | (with_reducible exact hHeld23) | (refine Keeps.set ?_ (by simp <;> omega) (by simp <;> omega) _)))) (fun hHeld24 => ?_)
      replace hS13 := hS13.mv2 hHeld24 (by first | omega | (simp <;> omega)) (by simp <;> omega)
      replace hS14 := hHeld24.add2 s14z0 s14c0 s14f0 s14c1 s14f1
      clear s14z0 s14c0 s14f0 s14z1 s14c1 s14f1
      clear hK K
      try clear hb
      try simp only [Act.put, List.setIfInBounds_toArray, List.set_cons_zero, List.set_cons_succ]
      generalize hGWA19 : World.setCell (World.setCell WA18 ⟨wa.heap.size, 0, none⟩ (.int .i64 o2)) ⟨wa.heap.size, 1, none⟩ (.int .u64 o3) = WA19 at *
      clear hGWA19
      refine wpAnyH_done (by kernel_rfl) ?_ _
      have hHeld := hHeld24
      rotate_left 1
      refine AllReadyH.cons (o := ⟨some 13, _, _, _, _, _⟩) rfl (fun K hK => ?_) ?_
      have hne14_13 := hS14.2.1.1
      have lo13 := hHeld20.1.size
      obtain ⟨⟨a13_z0, a13_c0, a13_f0⟩, ⟨a13_z1, a13_c1, a13_f1⟩, ⟨a13_z2, a13_c2, a13_f2⟩, ⟨a13_z3, a13_c3, a13_f3⟩, ⟨a13_z4, a13_c4, a13_f4⟩, ⟨a13_z5, a13_c5, a13_f5⟩, ⟨a13_z6, a13_c6, a13_f6⟩, ⟨a13_z7, a13_c7, a13_f7⟩, _⟩ := hHeld20.2
      (try simp at lo13); (try simp at hne14_13); (try simp at a13_z0); (try simp at a13_z1); (try simp at a13_z2); (try simp at a13_z3); (try simp at a13_z4); (try simp at a13_z5); (try simp at a13_z6); (try simp at a13_z7)
      go_simp
      refine hK.out _ _ (by first | exact hHeld20.alloc _ | exact (hHeld20.alloc _).drew) (fun hHeld25 => ?_)
      first | replace hS14 := hS14.alloc2e hHeld25 | replace hS14 := hS14.alloc2 hHeld25
      first | have hS13 := newK2 hHeld25 | have hS13 := newK2d hHeld25
      clear hK K
      try clear hb
      try simp only [Act.put, List.setIfInBounds_toArray, List.set_cons_zero, List.set_cons_succ]
      generalize hGWA20 : World.alloc WA16 (.cells #[.int .i64 0, .int .u64 0] 41) = WA20 at *
      clear hGWA20
      refine wpAnyH_ready (rs := [9]) (by kernel_rfl) (by simp) ?_
      refine AllReadyH.cons (o := ⟨some 84, _, _, _, _, _⟩) rfl (fun K hK => ?_) AllReadyH.nil
      go_simp
      (first | ((with_reducible refine (M3.out _).mono ?_); rintro en wa ⟨rfl, hb⟩) | ((with_reducible refine (M4.out _).mono ?_); rintro en wb ⟨rfl, hb⟩))
      refine hK.out _ _ (hHeld25.next hb) (fun hHeld26 => ?_)
      replace hS14 := hS14.next hb
      replace hS13 := hS13.next hb
      clear hK K
      try clear hb
      try simp only [Act.put, List.setIfInBounds_toArray, List.set_cons_zero, List.set_cons_succ]
      refine wpAnyH_ready (rs := [12]) (by kernel_rfl) (by simp) ?_
      refine AllReadyH.cons (o := ⟨none, _, _, _, _, _⟩) rfl (fun K hK => ?_) AllReadyH.nil
      obtain ⟨⟨s13z0, s13c0, s13f0⟩, ⟨s13z1, s13c1, s13f1⟩, _⟩ := hS13.2
      go_simp
      refine hK.out _ _ (by (repeat (first | (with_reducible exact hHeld26) | (refine Keeps.set ?_ (by simp <;> omega) (by simp <;> omega) _)))) (fun hHeld27 => ?_)
      replace hS14 := hS14.mv2 hHeld27 (by first | omega | (simp <;> omega)) (by simp <;> omega)
      replace hS13 := hHeld27.add2 s13z0 s13c0 s13f0 s13c1 s13f1
      clear s13z0 s13c0 s13f0 s13z1 s13c1 s13f1
      clear hK K
      try clear hb
      try simp only [Act.put, List.setIfInBounds_toArray, List.set_cons_zero, List.set_cons_succ]
      generalize hGWA21 : World.setCell (World.setCell wb ⟨WA16.heap.size, 0, none⟩ (.int .i64 o0)) ⟨WA16.heap.size, 1, none⟩ (.int .u64 o1) = WA21 at *
      clear hGWA21
      refine wpAnyH_ready (rs := [13]) (by kernel_rfl) (by simp) ?_
      refine AllReadyH.cons (o := ⟨none, _, _, _, _, _⟩) rfl (fun K hK => ?_) AllReadyH.nil
      obtain ⟨⟨s14z0, s14c0, s14f0⟩, ⟨s14z1, s14c1, s14f1⟩, _⟩ := hS14.2
      go_simp
      refine hK.out _ _ (by (repeat (first | (with_reducible exact hHeld27) | (refine Keeps.set ?_ (by simp <;> omega) (by simp <;> omega) _)))) (fun hHeld28 => ?_)
      replace hS13 := hS13.mv2 hHeld28 (by first | omega | (simp <;> omega)) (by simp <;> omega)
      replace hS14 := hHeld28.add2 s14z0 s14c0 s14f0 s14c1 s14f1
      clear s14z0 s14c0 s14f0 s14z1 s14c1 s14f1
      clear hK K
      try clear hb
      try simp only [Act.put, List.setIfInBounds_toArray, List.set_cons_zero, List.set_cons_succ]
      generalize hGWA22 : World.setCell (World.setCell WA21 ⟨wa.heap.size, 0, none⟩ (.int .i64 o2)) ⟨wa.heap.size, 1, none⟩ (.int .u64 o3) = WA22 at *
      clear hGWA22
      refine wpAnyH_done (by kernel_rfl) ?_ _
      have hHeld := hHeld28
      rotate_left 1
      exact AllReadyH.nil
      exact AllReadyH.nil
      refine AllReadyH.cons (o := ⟨some 13, _, _, _, _, _⟩) rfl (fun K hK => ?_) ?_
      have lo13 := hHeld0.1.size
      obtain ⟨⟨a13_z0, a13_c0, a13_f0⟩, ⟨a13_z1, a13_c1, a13_f1⟩, ⟨a13_z2, a13_c2, a13_f2⟩, ⟨a13_z3, a13_c3, a13_f3⟩, ⟨a13_z4, a13_c4, a13_f4⟩, ⟨a13_z5, a13_c5, a13_f5⟩, ⟨a13_z6, a13_c6, a13_f6⟩, ⟨a13_z7, a13_c7, a13_f7⟩, _⟩ := hHeld0.2
      (try simp at lo13); (try simp at a13_z0); (try simp at a13_z1); (try simp at a13_z2); (try simp at a13_z3); (try simp at a13_z4); (try simp at a13_z5); (try simp at a13_z6); (try simp at a13_z7)
      go_simp
      refine hK.out _ _ (by first | exact hHeld0.alloc _ | exact (hHeld0.alloc _).drew) (fun hHeld29 => ?_)
      first | have hS13 := newK2 hHeld29 | have hS13 := newK2d hHeld29
      clear hK K
      try clear hb
      try simp only [Act.put, List.setIfInBounds_toArray, List.set_cons_zero, List.set_cons_succ]
      generalize hGWA23 : World.alloc wc (.cells #[.int .i64 0, .int .u64 0] 41) = WA23 at *
      clear hGWA23
      refine wpAnyH_ready (rs := [4, 11]) (by kernel_rfl) (by simp) ?_
      refine AllReadyH.cons (o := ⟨some 79, _, _, _, _, _⟩) rfl (fun K hK => ?_) ?_
      go_simp
      (first | ((with_reducible refine (M3.out _).mono ?_); rintro en wa ⟨rfl, hb⟩) | ((with_reducible refine (M4.out _).mono ?_); rintro en wb ⟨rfl, hb⟩))
      refine hK.out _ _ (hHeld29.next hb) (fun hHeld30 => ?_)
      replace hS13 := hS13.next hb
      clear hK K
      try clear hb
      try simp only [Act.put, List.setIfInBounds_toArray, List.set_cons_zero, List.set_cons_succ]
      refine wpAnyH_ready (rs := [9, 11]) (by kernel_rfl) (by simp) ?_
      refine AllReadyH.cons (o := ⟨some 84, _, _, _, _, _⟩) rfl (fun K hK => ?_) ?_
      go_simp
      (first | ((with_reducible refine (M3.out _).mono ?_); rintro en wa ⟨rfl, hb⟩) | ((with_reducible refine (M4.out _).mono ?_); rintro en wb ⟨rfl, hb⟩))
      refine hK.out _ _ (hHeld30.next hb) (fun hHeld31 => ?_)
      replace hS13 := hS13.next hb
      clear hK K
      try clear hb
      try simp only [Act.put, List.setIfInBounds_toArray, List.set_cons_zero, List.set_cons_succ]
      refine wpAnyH_ready (rs := [11]) (by kernel_rfl) (by simp) ?_
      refine AllReadyH.cons (o := ⟨some 14, _, _, _, _, _⟩) rfl (fun K hK => ?_) AllReadyH.nil
      have hne13_14 := hS13.2.1.1
      have lo14 := hHeld31.1.size
      obtain ⟨⟨a14_z0, a14_c0, a14_f0⟩, ⟨a14_z1, a14_c1, a14_f1⟩, ⟨a14_z2, a14_c2, a14_f2⟩, ⟨a14_z3, a14_c3, a14_f3⟩, ⟨a14_z4, a14_c4, a14_f4⟩, ⟨a14_z5, a14_c5, a14_f5⟩, ⟨a14_z6, a14_c6, a14_f6⟩, ⟨a14_z7, a14_c7, a14_f7⟩, _⟩ := hHeld31.2
      (try simp at lo14); (try simp at hne13_14); (try simp at a14_z0); (try simp at a14_z1); (try simp at a14_z2); (try simp at a14_z3); (try simp at a14_z4); (try simp at a14_z5); (try simp at a14_z6); (try simp at a14_z7)
      go_simp
      refine hK.out _ _ (by first | exact hHeld31.alloc _ | exact (hHeld31.alloc _).drew) (fun hHeld32 => ?_)
      first | replace hS13 := hS13.alloc2e hHeld32 | replace hS13 := hS13.alloc2 hHeld32
      first | have hS14 := newK2 hHeld32 | have hS14 := newK2d hHeld32
      clear hK K
      try clear hb
      try simp only [Act.put, List.setIfInBounds_toArray, List.set_cons_zero, List.set_cons_succ]
      generalize hGWA24 : World.alloc wb (.cells #[.int .i64 0, .int .u64 0] 41) = WA24 at *
      clear hGWA24
      refine wpAnyH_ready (rs := [12]) (by kernel_rfl) (by simp) ?_
      refine AllReadyH.cons (o := ⟨none, _, _, _, _, _⟩) rfl (fun K hK => ?_) AllReadyH.nil
      obtain ⟨⟨s13z0, s13c0, s13f0⟩, ⟨s13z1, s13c1, s13f1⟩, _⟩ := hS13.2
      go_simp
      refine hK.out _ _ (by (repeat (first | (with_reducible exact hHeld32) | (refine Keeps.set ?_ (by simp <;> omega) (by simp <;> omega) _)))) (fun hHeld33 => ?_)
      replace hS14 := hS14.mv2 hHeld33 (by first | omega | (simp <;> omega)) (by simp <;> omega)
      replace hS13 := hHeld33.add2 s13z0 s13c0 s13f0 s13c1 s13f1
      clear s13z0 s13c0 s13f0 s13z1 s13c1 s13f1
      clear hK K
      try clear hb
      try simp only [Act.put, List.setIfInBounds_toArray, List.set_cons_zero, List.set_cons_succ]
      generalize hGWA25 : World.setCell (World.setCell WA24 ⟨wc.heap.size, 0, none⟩ (.int .i64 o0)) ⟨wc.heap.size, 1, none⟩ (.int .u64 o1) = WA25 at *
      clear hGWA25
      refine wpAnyH_ready (rs := [13]) (by kernel_rfl) (by simp) ?_
      refine AllReadyH.cons (o := ⟨none, _, _, _, _, _⟩) rfl (fun K hK => ?_) AllReadyH.nil
      obtain ⟨⟨s14z0, s14c0, s14f0⟩, ⟨s14z1, s14c1, s14f1⟩, _⟩ := hS14.2
      go_simp
      refine hK.out _ _ (by (repeat (first | (with_reducible exact hHeld33) | (refine Keeps.set ?_ (by simp <;> omega) (by simp <;> omega) _)))) (fun hHeld34 => ?_)
      replace hS13 := hS13.mv2 hHeld34 (by first | omega | (simp <;> omega)) (by simp <;> omega)
      replace hS14 := hHeld34.add2 s14z0 s14c0 s14f0 s14c1 s14f1
      clear s14z0 s14c0 s14f0 s14z1 s14c1 s14f1
      clear hK K
      try clear hb
      try simp only [Act.put, List.setIfInBounds_toArray, List.set_cons_zero, List.set_cons_succ]
      generalize hGWA26 : World.setCell (World.setCell WA25 ⟨wb.heap.size, 0, none⟩ (.int .i64 o2)) ⟨wb.heap.size, 1, none⟩ (.int .u64 o3) = WA26 at *
      clear hGWA26
      refine wpAnyH_done (by kernel_rfl) ?_ _
      have hHeld := hHeld34
      rotate_left 1
      refine AllReadyH.cons (o := ⟨some 14, _, _, _, _, _⟩) rfl (fun K hK => ?_) ?_
      have hne13_14 := hS13.2.1.1
      have lo14 := hHeld30.1.size
      obtain ⟨⟨a14_z0, a14_c0, a14_f0⟩, ⟨a14_z1, a14_c1, a14_f1⟩, ⟨a14_z2, a14_c2, a14_f2⟩, ⟨a14_z3, a14_c3, a14_f3⟩, ⟨a14_z4, a14_c4, a14_f4⟩, ⟨a14_z5, a14_c5, a14_f5⟩, ⟨a14_z6, a14_c6, a14_f6⟩, ⟨a14_z7, a14_c7, a14_f7⟩, _⟩ := hHeld30.2
      (try simp at lo14); (try simp at hne13_14); (try simp at a14_z0); (try simp at a14_z1); (try simp at a14_z2); (try simp at a14_z3); (try simp at a14_z4); (try simp at a14_z5); (try simp at a14_z6); (try simp at a14_z7)
      go_simp
      refine hK.out _ _ (by first | exact hHeld30.alloc _ | exact (hHeld30.alloc _).drew) (fun hHeld35 => ?_)
      first | replace hS13 := hS13.alloc2e hHeld35 | replace hS13 := hS13.alloc2 hHeld35
      first | have hS14 := newK2 hHeld35 | have hS14 := newK2d hHeld35
      clear hK K
      try clear hb
      try simp only [Act.put, List.setIfInBounds_toArray, List.set_cons_zero, List.set_cons_succ]
      generalize hGWA27 : World.alloc wa (.cells #[.int .i64 0, .int .u64 0] 41) = WA27 at *
      clear hGWA27
      refine wpAnyH_ready (rs := [9]) (by kernel_rfl) (by simp) ?_
      refine AllReadyH.cons (o := ⟨some 84, _, _, _, _, _⟩) rfl (fun K hK => ?_) AllReadyH.nil
      go_simp
      (first | ((with_reducible refine (M3.out _).mono ?_); rintro en wa ⟨rfl, hb⟩) | ((with_reducible refine (M4.out _).mono ?_); rintro en wb ⟨rfl, hb⟩))
      refine hK.out _ _ (hHeld35.next hb) (fun hHeld36 => ?_)
      replace hS13 := hS13.next hb
      replace hS14 := hS14.next hb
      clear hK K
      try clear hb
      try simp only [Act.put, List.setIfInBounds_toArray, List.set_cons_zero, List.set_cons_succ]
      refine wpAnyH_ready (rs := [12]) (by kernel_rfl) (by simp) ?_
      refine AllReadyH.cons (o := ⟨none, _, _, _, _, _⟩) rfl (fun K hK => ?_) AllReadyH.nil
      obtain ⟨⟨s13z0, s13c0, s13f0⟩, ⟨s13z1, s13c1, s13f1⟩, _⟩ := hS13.2
      go_simp
      refine hK.out _ _ (by (repeat (first | (with_reducible exact hHeld36) | (refine Keeps.set ?_ (by simp <;> omega) (by simp <;> omega) _)))) (fun hHeld37 => ?_)
      replace hS14 := hS14.mv2 hHeld37 (by first | omega | (simp <;> omega)) (by simp <;> omega)
      replace hS13 := hHeld37.add2 s13z0 s13c0 s13f0 s13c1 s13f1
      clear s13z0 s13c0 s13f0 s13z1 s13c1 s13f1
      clear hK K
      try clear hb
      try simp only [Act.put, List.setIfInBounds_toArray, List.set_cons_zero, List.set_cons_succ]
      generalize hGWA28 : World.setCell (World.setCell wb ⟨wc.heap.size, 0, none⟩ (.int .i64 o0)) ⟨wc.heap.size, 1, none⟩ (.int .u64 o1) = WA28 at *
      clear hGWA28
      refine wpAnyH_ready (rs := [13]) (by kernel_rfl) (by simp) ?_
      refine AllReadyH.cons (o := ⟨none, _, _, _, _, _⟩) rfl (fun K hK => ?_) AllReadyH.nil
      obtain ⟨⟨s14z0, s14c0, s14f0⟩, ⟨s14z1, s14c1, s14f1⟩, _⟩ := hS14.2
      go_simp
      refine hK.out _ _ (by (repeat (first | (with_reducible exact hHeld37) | (refine Keeps.set ?_ (by simp <;> omega) (by simp <;> omega) _)))) (fun hHeld38 => ?_)
      replace hS13 := hS13.mv2 hHeld38 (by first | omega | (simp <;> omega)) (by simp <;> omega)
      replace hS14 := hHeld38.add2 s14z0 s14c0 s14f0 s14c1 s14f1
      clear s14z0 s14c0 s14f0 s14z1 s14c1 s14f1
      clear hK K
      try clear hb
      try simp only [Act.put, List.setIfInBounds_toArray, List.set_cons_zero, List.set_cons_succ]
      generalize hGWA29 : World.setCell (World.setCell WA28 ⟨wa.heap.size, 0, none⟩ (.int .i64 o2)) ⟨wa.heap.size, 1, none⟩ (.int .u64 o3) = WA29 at *
      clear hGWA29
      refine wpAnyH_done (by kernel_rfl) ?_ _
      have hHeld := hHeld38
      rotate_left 1
      exact AllReadyH.nil
      refine AllReadyH.cons (o := ⟨some 14, _, _, _, _, _⟩) rfl (fun K hK => ?_) ?_
      have hne13_14 := hS13.2.1.1
      have lo14 := hHeld29.1.size
      obtain ⟨⟨a14_z0, a14_c0, a14_f0⟩, ⟨a14_z1, a14_c1, a14_f1⟩, ⟨a14_z2, a14_c2, a14_f2⟩, ⟨a14_z3, a14_c3, a14_f3⟩, ⟨a14_z4, a14_c4, a14_f4⟩, ⟨a14_z5, a14_c5, a14_f5⟩, ⟨a14_z6, a14_c6, a14_f6⟩, ⟨a14_z7, a14_c7, a14_f7⟩, _⟩ := hHeld29.2
      (try simp at lo14); (try simp at hne13_14); (try simp at a14_z0); (try simp at a14_z1); (try simp at a14_z2); (try simp at a14_z3); (try simp at a14_z4); (try simp at a14_z5); (try simp at a14_z6); (try simp at a14_z7)
      go_simp
      refine hK.out _ _ (by first | exact hHeld29.alloc _ | exact (hHeld29.alloc _).drew) (fun hHeld39 => ?_)
      first | replace hS13 := hS13.alloc2e hHeld39 | replace hS13 := hS13.alloc2 hHeld39
      first | have hS14 := newK2 hHeld39 | have hS14 := newK2d hHeld39
      clear hK K
      try clear hb
      try simp only [Act.put, List.setIfInBounds_toArray, List.set_cons_zero, List.set_cons_succ]
      generalize hGWA30 : World.alloc WA23 (.cells #[.int .i64 0, .int .u64 0] 41) = WA30 at *
      clear hGWA30
      refine wpAnyH_ready (rs := [4]) (by kernel_rfl) (by simp) ?_
      refine AllReadyH.cons (o := ⟨some 79, _, _, _, _, _⟩) rfl (fun K hK => ?_) AllReadyH.nil
      go_simp
      (first | ((with_reducible refine (M3.out _).mono ?_); rintro en wa ⟨rfl, hb⟩) | ((with_reducible refine (M4.out _).mono ?_); rintro en wb ⟨rfl, hb⟩))
      refine hK.out _ _ (hHeld39.next hb) (fun hHeld40 => ?_)
      replace hS13 := hS13.next hb
      replace hS14 := hS14.next hb
      clear hK K
      try clear hb
      try simp only [Act.put, List.setIfInBounds_toArray, List.set_cons_zero, List.set_cons_succ]
      refine wpAnyH_ready (rs := [9]) (by kernel_rfl) (by simp) ?_
      refine AllReadyH.cons (o := ⟨some 84, _, _, _, _, _⟩) rfl (fun K hK => ?_) AllReadyH.nil
      go_simp
      (first | ((with_reducible refine (M3.out _).mono ?_); rintro en wa ⟨rfl, hb⟩) | ((with_reducible refine (M4.out _).mono ?_); rintro en wb ⟨rfl, hb⟩))
      refine hK.out _ _ (hHeld40.next hb) (fun hHeld41 => ?_)
      replace hS13 := hS13.next hb
      replace hS14 := hS14.next hb
      clear hK K
      try clear hb
      try simp only [Act.put, List.setIfInBounds_toArray, List.set_cons_zero, List.set_cons_succ]
      refine wpAnyH_ready (rs := [12]) (by kernel_rfl) (by simp) ?_
      refine AllReadyH.cons (o := ⟨none, _, _, _, _, _⟩) rfl (fun K hK => ?_) AllReadyH.nil
      obtain ⟨⟨s13z0, s13c0, s13f0⟩, ⟨s13z1, s13c1, s13f1⟩, _⟩ := hS13.2
      go_simp
      refine hK.out _ _ (by (repeat (first | (with_reducible exact hHeld41) | (refine Keeps.set ?_ (by simp <;> omega) (by simp <;> omega) _)))) (fun hHeld42 => ?_)
      replace hS14 := hS14.mv2 hHeld42 (by first | omega | (simp <;> omega)) (by simp <;> omega)
      replace hS13 := hHeld42.add2 s13z0 s13c0 s13f0 s13c1 s13f1
      clear s13z0 s13c0 s13f0 s13z1 s13c1 s13f1
      clear hK K
      try clear hb
      try simp only [Act.put, List.setIfInBounds_toArray, List.set_cons_zero, List.set_cons_succ]
      generalize hGWA31 : World.setCell (World.setCell wb ⟨wc.heap.size, 0, none⟩ (.int .i64 o0)) ⟨wc.heap.size, 1, none⟩ (.int .u64 o1) = WA31 at *
      clear hGWA31
      refine wpAnyH_ready (rs := [13]) (by kernel_rfl) (by simp) ?_
      refine AllReadyH.cons (o := ⟨none, _, _, _, _, _⟩) rfl (fun K hK => ?_) AllReadyH.nil
      obtain ⟨⟨s14z0, s14c0, s14f0⟩, ⟨s14z1, s14c1, s14f1⟩, _⟩ := hS14.2
      go_simp
      refine hK.out _ _ (by (repeat (first | (with_reducible exact hHeld42) | (refine Keeps.set ?_ (by simp <;> omega) (by simp <;> omega) _)))) (fun hHeld43 => ?_)
      replace hS13 := hS13.mv2 hHeld43 (by first | omega | (simp <;> omega)) (by simp <;> omega)
      replace hS14 := hHeld43.add2 s14z0 s14c0 s14f0 s14c1 s14f1
      clear s14z0 s14c0 s14f0 s14z1 s14c1 s14f1
      clear hK K
      try clear hb
      try simp only [Act.put, List.setIfInBounds_toArray, List.set_cons_zero, List.set_cons_succ]
      generalize hGWA32 : World.setCell (World.setCell WA31 ⟨WA23.heap.size, 0, none⟩ (.int .i64 o2)) ⟨WA23.heap.size, 1, none⟩ (.int .u64 o3) = WA32 at *
      clear hGWA32
      refine wpAnyH_done (by kernel_rfl) ?_ _
      have hHeld := hHeld43
      rotate_left 1
      exact AllReadyH.nil
      refine AllReadyH.cons (o := ⟨some 14, _, _, _, _, _⟩) rfl (fun K hK => ?_) ?_
      have lo14 := hHeld0.1.size
      obtain ⟨⟨a14_z0, a14_c0, a14_f0⟩, ⟨a14_z1, a14_c1, a14_f1⟩, ⟨a14_z2, a14_c2, a14_f2⟩, ⟨a14_z3, a14_c3, a14_f3⟩, ⟨a14_z4, a14_c4, a14_f4⟩, ⟨a14_z5, a14_c5, a14_f5⟩, ⟨a14_z6, a14_c6, a14_f6⟩, ⟨a14_z7, a14_c7, a14_f7⟩, _⟩ := hHeld0.2
      (try simp at lo14); (try simp at a14_z0); (try simp at a14_z1); (try simp at a14_z2); (try simp at a14_z3); (try simp at a14_z4); (try simp at a14_z5); (try simp at a14_z6); (try simp at a14_z7)
      go_simp
      refine hK.out _ _ (by first | exact hHeld0.alloc _ | exact (hHeld0.alloc _).drew) (fun hHeld44 => ?_)
      first | have hS14 := newK2 hHeld44 | have hS14 := newK2d hHeld44
      clear hK K
      try clear hb
      try simp only [Act.put, List.setIfInBounds_toArray, List.set_cons_zero, List.set_cons_succ]
      generalize hGWA33 : World.alloc wc (.cells #[.int .i64 0, .int .u64 0] 41) = WA33 at *
      clear hGWA33
      refine wpAnyH_ready (rs := [4, 10]) (by kernel_rfl) (by simp) ?_
      refine AllReadyH.cons (o := ⟨some 79, _, _, _, _, _⟩) rfl (fun K hK => ?_) ?_
      go_simp
      (first | ((with_reducible refine (M3.out _).mono ?_); rintro en wa ⟨rfl, hb⟩) | ((with_reducible refine (M4.out _).mono ?_); rintro en wb ⟨rfl, hb⟩))
      refine hK.out _ _ (hHeld44.next hb) (fun hHeld45 => ?_)
      replace hS14 := hS14.next hb
      clear hK K
      try clear hb
      try simp only [Act.put, List.setIfInBounds_toArray, List.set_cons_zero, List.set_cons_succ]
      refine wpAnyH_ready (rs := [9, 10]) (by kernel_rfl) (by simp) ?_
      refine AllReadyH.cons (o := ⟨some 84, _, _, _, _, _⟩) rfl (fun K hK => ?_) ?_
      go_simp
      (first | ((with_reducible refine (M3.out _).mono ?_); rintro en wa ⟨rfl, hb⟩) | ((with_reducible refine (M4.out _).mono ?_); rintro en wb ⟨rfl, hb⟩))
      refine hK.out _ _ (hHeld45.next hb) (fun hHeld46 => ?_)
      replace hS14 := hS14.next hb
      clear hK K
      try clear hb
      try simp only [Act.put, List.setIfInBounds_toArray, List.set_cons_zero, List.set_cons_succ]
      refine wpAnyH_ready (rs := [10]) (by kernel_rfl) (by simp) ?_
      refine AllReadyH.cons (o := ⟨some 13, _, _, _, _, _⟩) rfl (fun K hK => ?_) AllReadyH.nil
      have hne14_13 := hS14.2.1.1
      have lo13 := hHeld46.1.size
      obtain ⟨⟨a13_z0, a13_c0, a13_f0⟩, ⟨a13_z1, a13_c1, a13_f1⟩, ⟨a13_z2, a13_c2, a13_f2⟩, ⟨a13_z3, a13_c3, a13_f3⟩, ⟨a13_z4, a13_c4, a13_f4⟩, ⟨a13_z5, a13_c5, a13_f5⟩, ⟨a13_z6, a13_c6, a13_f6⟩, ⟨a13_z7, a13_c7, a13_f7⟩, _⟩ := hHeld46.2
      (try simp at lo13); (try simp at hne14_13); (try simp at a13_z0); (try simp at a13_z1); (try simp at a13_z2); (try simp at a13_z3); (try simp at a13_z4); (try simp at a13_z5); (try simp at a13_z6); (try simp at a13_z7)
      go_simp
      refine hK.out _ _ (by first | exact hHeld46.alloc _ | exact (hHeld46.alloc _).drew) (fun hHeld47 => ?_)
      first | replace hS14 := hS14.alloc2e hHeld47 | replace hS14 := hS14.alloc2 hHeld47
      first | have hS13 := newK2 hHeld47 | have hS13 := newK2d hHeld47
      clear hK K
      try clear hb
      try simp only [Act.put, List.setIfInBounds_toArray, List.set_cons_zero, List.set_cons_succ]
      generalize hGWA34 : World.alloc wb (.cells #[.int .i64 0, .int .u64 0] 41) = WA34 at *
      clear hGWA34
      refine wpAnyH_ready (rs := [12]) (by kernel_rfl) (by simp) ?_
      refine AllReadyH.cons (o := ⟨none, _, _, _, _, _⟩) rfl (fun K hK => ?_) AllReadyH.nil
      obtain ⟨⟨s13z0, s13c0, s13f0⟩, ⟨s13z1, s13c1, s13f1⟩, _⟩ := hS13.2
      go_simp
      refine hK.out _ _ (by (repeat (first | (with_reducible exact hHeld47) | (refine Keeps.set ?_ (by simp <;> omega) (by simp <;> omega) _)))) (fun hHeld48 => ?_)
      replace hS14 := hS14.mv2 hHeld48 (by first | omega | (simp <;> omega)) (by simp <;> omega)
      replace hS13 := hHeld48.add2 s13z0 s13c0 s13f0 s13c1 s13f1
      clear s13z0 s13c0 s13f0 s13z1 s13c1 s13f1
      clear hK K
      try clear hb
      try simp only [Act.put, List.setIfInBounds_toArray, List.set_cons_zero, List.set_cons_succ]
      generalize hGWA35 : World.setCell (World.setCell WA34 ⟨wb.heap.size, 0, none⟩ (.int .i64 o0)) ⟨wb.heap.size, 1, none⟩ (.int .u64 o1) = WA35 at *
      clear hGWA35
      refine wpAnyH_ready (rs := [13]) (by kernel_rfl) (by simp) ?_
      refine AllReadyH.cons (o := ⟨none, _, _, _, _, _⟩) rfl (fun K hK => ?_) AllReadyH.nil
      obtain ⟨⟨s14z0, s14c0, s14f0⟩, ⟨s14z1, s14c1, s14f1⟩, _⟩ := hS14.2
      go_simp
      refine hK.out _ _ (by (repeat (first | (with_reducible exact hHeld48) | (refine Keeps.set ?_ (by simp <;> omega) (by simp <;> omega) _)))) (fun hHeld49 => ?_)
      replace hS13 := hS13.mv2 hHeld49 (by first | omega | (simp <;> omega)) (by simp <;> omega)
      replace hS14 := hHeld49.add2 s14z0 s14c0 s14f0 s14c1 s14f1
      clear s14z0 s14c0 s14f0 s14z1 s14c1 s14f1
      clear hK K
      try clear hb
      try simp only [Act.put, List.setIfInBounds_toArray, List.set_cons_zero, List.set_cons_succ]
      generalize hGWA36 : World.setCell (World.setCell WA35 ⟨wc.heap.size, 0, none⟩ (.int .i64 o2)) ⟨wc.heap.size, 1, none⟩ (.int .u64 o3) = WA36 at *
      clear hGWA36
      refine wpAnyH_done (by kernel_rfl) ?_ _
      have hHeld := hHeld49
      rotate_left 1
      refine AllReadyH.cons (o := ⟨some 13, _, _, _, _, _⟩) rfl (fun K hK => ?_) ?_
      have hne14_13 := hS14.2.1.1
      have lo13 := hHeld45.1.size
      obtain ⟨⟨a13_z0, a13_c0, a13_f0⟩, ⟨a13_z1, a13_c1, a13_f1⟩, ⟨a13_z2, a13_c2, a13_f2⟩, ⟨a13_z3, a13_c3, a13_f3⟩, ⟨a13_z4, a13_c4, a13_f4⟩, ⟨a13_z5, a13_c5, a13_f5⟩, ⟨a13_z6, a13_c6, a13_f6⟩, ⟨a13_z7, a13_c7, a13_f7⟩, _⟩ := hHeld45.2
      (try simp at lo13); (try simp at hne14_13); (try simp at a13_z0); (try simp at a13_z1); (try simp at a13_z2); (try simp at a13_z3); (try simp at a13_z4); (try simp at a13_z5); (try simp at a13_z6); (try simp at a13_z7)
      go_simp
      refine hK.out _ _ (by first | exact hHeld45.alloc _ | exact (hHeld45.alloc _).drew) (fun hHeld50 => ?_)
      first | replace hS14 := hS14.alloc2e hHeld50 | replace hS14 := hS14.alloc2 hHeld50
      first | have hS13 := newK2 hHeld50 | have hS13 := newK2d hHeld50
      clear hK K
      try clear hb
      try simp only [Act.put, List.setIfInBounds_toArray, List.set_cons_zero, List.set_cons_succ]
      generalize hGWA37 : World.alloc wa (.cells #[.int .i64 0, .int .u64 0] 41) = WA37 at *
      clear hGWA37
      refine wpAnyH_ready (rs := [9]) (by kernel_rfl) (by simp) ?_
      refine AllReadyH.cons (o := ⟨some 84, _, _, _, _, _⟩) rfl (fun K hK => ?_) AllReadyH.nil
      go_simp
      (first | ((with_reducible refine (M3.out _).mono ?_); rintro en wa ⟨rfl, hb⟩) | ((with_reducible refine (M4.out _).mono ?_); rintro en wb ⟨rfl, hb⟩))
      refine hK.out _ _ (hHeld50.next hb) (fun hHeld51 => ?_)
      replace hS14 := hS14.next hb
      replace hS13 := hS13.next hb
      clear hK K
      try clear hb
      try simp only [Act.put, List.setIfInBounds_toArray, List.set_cons_zero, List.set_cons_succ]
      refine wpAnyH_ready (rs := [12]) (by kernel_rfl) (by simp) ?_
      refine AllReadyH.cons (o := ⟨none, _, _, _, _, _⟩) rfl (fun K hK => ?_) AllReadyH.nil
      obtain ⟨⟨s13z0, s13c0, s13f0⟩, ⟨s13z1, s13c1, s13f1⟩, _⟩ := hS13.2
      go_simp
      refine hK.out _ _ (by (repeat (first | (with_reducible exact hHeld51) | (refine Keeps.set ?_ (by simp <;> omega) (by simp <;> omega) _)))) (fun hHeld52 => ?_)
      replace hS14 := hS14.mv2 hHeld52 (by first | omega | (simp <;> omega)) (by simp <;> omega)
      replace hS13 := hHeld52.add2 s13z0 s13c0 s13f0 s13c1 s13f1
      clear s13z0 s13c0 s13f0 s13z1 s13c1 s13f1
      clear hK K
      try clear hb
      try simp only [Act.put, List.setIfInBounds_toArray, List.set_cons_zero, List.set_cons_succ]
      generalize hGWA38 : World.setCell (World.setCell wb ⟨wa.heap.size, 0, none⟩ (.int .i64 o0)) ⟨wa.heap.size, 1, none⟩ (.int .u64 o1) = WA38 at *
      clear hGWA38
      refine wpAnyH_ready (rs := [13]) (by kernel_rfl) (by simp) ?_
      refine AllReadyH.cons (o := ⟨none, _, _, _, _, _⟩) rfl (fun K hK => ?_) AllReadyH.nil
      obtain ⟨⟨s14z0, s14c0, s14f0⟩, ⟨s14z1, s14c1, s14f1⟩, _⟩ := hS14.2
      go_simp
      refine hK.out _ _ (by (repeat (first | (with_reducible exact hHeld52) | (refine Keeps.set ?_ (by simp <;> omega) (by simp <;> omega) _)))) (fun hHeld53 => ?_)
      replace hS13 := hS13.mv2 hHeld53 (by first | omega | (simp <;> omega)) (by simp <;> omega)
      replace hS14 := hHeld53.add2 s14z0 s14c0 s14f0 s14c1 s14f1
      clear s14z0 s14c0 s14f0 s14z1 s14c1 s14f1
      clear hK K
      try clear hb
      try simp only [Act.put, List.setIfInBounds_toArray, List.set_cons_zero, List.set_cons_succ]
      generalize hGWA39 : World.setCell (World.setCell WA38 ⟨wc.heap.size, 0, none⟩ (.int .i64 o2)) ⟨wc.heap.size, 1, none⟩ (.int .u64 o3) = WA39 at *
      clear hGWA39
      refine wpAnyH_done (by kernel_rfl) ?_ _
      have hHeld := hHeld53
      rotate_left 1
      exact AllReadyH.nil
      refine AllReadyH.cons (o := ⟨some 13, _, _, _, _, _⟩) rfl (fun K hK => ?_) ?_
      have hne14_13 := hS14.2.1.1
      have lo13 := hHeld44.1.size
      obtain ⟨⟨a13_z0, a13_c0, a13_f0⟩, ⟨a13_z1, a13_c1, a13_f1⟩, ⟨a13_z2, a13_c2, a13_f2⟩, ⟨a13_z3, a13_c3, a13_f3⟩, ⟨a13_z4, a13_c4, a13_f4⟩, ⟨a13_z5, a13_c5, a13_f5⟩, ⟨a13_z6, a13_c6, a13_f6⟩, ⟨a13_z7, a13_c7, a13_f7⟩, _⟩ := hHeld44.2
      (try simp at lo13); (try simp at hne14_13); (try simp at a13_z0); (try simp at a13_z1); (try simp at a13_z2); (try simp at a13_z3); (try simp at a13_z4); (try simp at a13_z5); (try simp at a13_z6); (try simp at a13_z7)
      go_simp
      refine hK.out _ _ (by first | exact hHeld44.alloc _ | exact (hHeld44.alloc _).drew) (fun hHeld54 => ?_)
      first | replace hS14 := hS14.alloc2e hHeld54 | replace hS14 := hS14.alloc2 hHeld54
      first | have hS13 := newK2 hHeld54 | have hS13 := newK2d hHeld54
      clear hK K
      try clear hb
      try simp only [Act.put, List.setIfInBounds_toArray, List.set_cons_zero, List.set_cons_succ]
      generalize hGWA40 : World.alloc WA33 (.cells #[.int .i64 0, .int .u64 0] 41) = WA40 at *
      clear hGWA40
      refine wpAnyH_ready (rs := [4]) (by kernel_rfl) (by simp) ?_
      refine AllReadyH.cons (o := ⟨some 79, _, _, _, _, _⟩) rfl (fun K hK => ?_) AllReadyH.nil
      go_simp
      (first | ((with_reducible refine (M3.out _).mono ?_); rintro en wa ⟨rfl, hb⟩) | ((with_reducible refine (M4.out _).mono ?_); rintro en wb ⟨rfl, hb⟩))
      refine hK.out _ _ (hHeld54.next hb) (fun hHeld55 => ?_)
      replace hS14 := hS14.next hb
      replace hS13 := hS13.next hb
      clear hK K
      try clear hb
      try simp only [Act.put, List.setIfInBounds_toArray, List.set_cons_zero, List.set_cons_succ]
      refine wpAnyH_ready (rs := [9]) (by kernel_rfl) (by simp) ?_
      refine AllReadyH.cons (o := ⟨some 84, _, _, _, _, _⟩) rfl (fun K hK => ?_) AllReadyH.nil
      go_simp
      (first | ((with_reducible refine (M3.out _).mono ?_); rintro en wa ⟨rfl, hb⟩) | ((with_reducible refine (M4.out _).mono ?_); rintro en wb ⟨rfl, hb⟩))
      refine hK.out _ _ (hHeld55.next hb) (fun hHeld56 => ?_)
      replace hS14 := hS14.next hb
      replace hS13 := hS13.next hb
      clear hK K
      try clear hb
      try simp only [Act.put, List.setIfInBounds_toArray, List.set_cons_zero, List.set_cons_succ]
      refine wpAnyH_ready (rs := [12]) (by kernel_rfl) (by simp) ?_
      refine AllReadyH.cons (o := ⟨none, _, _, _, _, _⟩) rfl (fun K hK => ?_) AllReadyH.nil
      obtain ⟨⟨s13z0, s13c0, s13f0⟩, ⟨s13z1, s13c1, s13f1⟩, _⟩ := hS13.2
      go_simp
      refine hK.out _ _ (by (repeat (first | (with_reducible exact hHeld56) | (refine Keeps.set ?_ (by simp <;> omega) (by simp <;> omega) _)))) (fun hHeld57 => ?_)
      replace hS14 := hS14.mv2 hHeld57 (by first | omega | (simp <;> omega)) (by simp <;> omega)
      replace hS13 := hHeld57.add2 s13z0 s13c0 s13f0 s13c1 s13f1
      clear s13z0 s13c0 s13f0 s13z1 s13c1 s13f1
      clear hK K
      try clear hb
      try simp only [Act.put, List.setIfInBounds_toArray, List.set_cons_zero, List.set_cons_succ]
      generalize hGWA41 : World.setCell (World.setCell wb ⟨WA33.heap.size, 0, none⟩ (.int .i64 o0)) ⟨WA33.heap.size, 1, none⟩ (.int .u64 o1) = WA41 at *
      clear hGWA41
      refine wpAnyH_ready (rs := [13]) (by kernel_rfl) (by simp) ?_
      refine AllReadyH.cons (o := ⟨none, _, _, _, _, _⟩) rfl (fun K hK => ?_) AllReadyH.nil
      obtain ⟨⟨s14z0, s14c0, s14f0⟩, ⟨s14z1, s14c1, s14f1⟩, _⟩ := hS14.2
      go_simp
      refine hK.out _ _ (by (repeat (first | (with_reducible exact hHeld57) | (refine Keeps.set ?_ (by simp <;> omega) (by simp <;> omega) _)))) (fun hHeld58 => ?_)
      replace hS13 := hS13.mv2 hHeld58 (by first | omega | (simp <;> omega)) (by simp <;> omega)
      replace hS14 := hHeld58.add2 s14z0 s14c0 s14f0 s14c1 s14f1
      clear s14z0 s14c0 s14f0 s14z1 s14c1 s14f1
      clear hK K
      try clear hb
      try simp only [Act.put, List.setIfInBounds_toArray, List.set_cons_zero, List.set_cons_succ]
      generalize hGWA42 : World.setCell (World.setCell WA41 ⟨wc.heap.size, 0, none⟩ (.int .i64 o2)) ⟨wc.heap.size, 1, none⟩ (.int .u64 o3) = WA42 at *
      clear hGWA42
      refine wpAnyH_done (by kernel_rfl) ?_ _
      have hHeld := hHeld58
      rotate_left 1
      exact AllReadyH.nil
      exact AllReadyH.nil
      all_goals
        go_wp2_with fail
        go_meet
        case rel =>
          obtain ⟨hb, s50, s51, q0, q1, q2, q3, _⟩ := hS13
          exact ⟨_, _, rfl, rfl, hb, s50, s51, hS14.2.1, hS14.2.2.1, q0, q1, q2, q3, trivial⟩
    case rest =>
      clear hHs M3 M4
      obtain ⟨g1, g2, rfl, rfl, hHs⟩ := hcut
      obtain ⟨⟨kz0, kc0, kf0⟩, ⟨kz1, kc1, kf1⟩, ⟨kz2, kc2, kf2⟩, ⟨kz3, kc3, kf3⟩, ⟨kz4, kc4, kf4⟩, ⟨kz5, kc5, kf5⟩, ⟨kz6, kc6, kf6⟩, ⟨kz7, kc7, kf7⟩, _⟩ := hHs.2
      have HBW := Lib.hid (under HB2.out.1 hHs.1)
      by_cases g1e : m.length = 1
      · have i5 : ((m.length : Int) == 1) = true := beq_iff_eq.2 (by omega)
        go_wp2_with fail
        go_ret
        exact ⟨rfl, HBW.out⟩
      · have i5 : ((m.length : Int) == 1) = false := beq_eq_false_iff_ne.2 (by omega)
        obtain ⟨h8, h9⟩ := TE.out.resolve_left g1e
        clear TE
        go_wp2_with fail
        refine (C1.out _).mono ?_
        rintro en w9 ⟨rfl, hb9⟩
        have HK10 := Lib.hid (hHs.next hb9)
        clear kz0 kc0 kf0 kz1 kc1 kf1 kz2 kc2 kf2 kz3 kc3 kf3 kz4 kc4 kf4 kz5 kc5 kf5 kz6 kc6 kf6 kz7 kc7 kf7 hHs hb9 C1
        obtain ⟨⟨kz0, kc0, kf0⟩, ⟨kz1, kc1, kf1⟩, ⟨kz2, kc2, kf2⟩, ⟨kz3, kc3, kf3⟩, _⟩ := HK10.out.2
        go_wp2_with fail
        refine (C2.out _).mono ?_
        rintro en w10 ⟨rfl, hb10⟩
        go_wp2_with fail
        go_ret
        exact ⟨rfl, under HB2.out.1 (HK10.out.next hb10).1⟩
end Go.Proofs.Ytmdhgiaaofdjiaa.P10
