/-
  Layer 9: the law SwingAny's walk. Conditions: those written at each fact.
-/
import Derived.Test.YtlhjijigpjfokaaSwP
namespace Go.Proofs.Ytlhjijigpjfokaa.P9
open Go.RowKit Go.Shelf Go.Proofs.Ytlhjijigpjfokaa.P8

theorem okD_times {b0 : Bd} {l : List Bd} (hk : okD (b0 :: l) = true) : (∀ b ∈ b0 :: l, BdOk b) ∧ (∀ b ∈ l, b0.t < b.t) := by
  obtain ⟨_, _, h1, h2⟩ := (okD_iff _).1 hk
  exact ⟨h1, (List.pairwise_cons.1 h2).1⟩
theorem line_ok {b0 : Bd} (h : BdOk b0) {n d : Int} (hs : slopeB n d = true) (hn : lowN n d = n ∧ lowD n d = d) : lineB (mid b0) 0 n d = true := by
  obtain ⟨_, h2, h3⟩ := band_ok h
  have hm := mid_in h
  have h1 := ((slopeB_iff _ _).1 hs).2.2.1
  rw [lineB_iff]
  refine ⟨hs, hn, ?_, by omega, by omega⟩
  rw [backB_iff] at *
  omega
theorem goes_iff (a r n d t0 : Int) (l : List Bd) : goesB a r n d t0 l = true ↔ ∀ b ∈ l, wnB a r n d (b.t - t0) b.lo b.hi = true := by
  unfold goesB
  rw [List.all_eq_true]
theorem wn_iff {b0 b : Bd} (h0 : BdOk b0) (hb : BdOk b) (ht : b0.t ≤ b.t) {n d : Int} (hl : lineB (mid b0) 0 n d = true) : wnB (mid b0) 0 n d (b.t - b0.t) b.lo b.hi = true ↔ OkB b0.t (mid b0) b n d := by
  have htm : timeB (b.t - b0.t) = true := by
    rw [timeB_iff]
    obtain ⟨h1, h2, _⟩ := h0
    obtain ⟨h3, h4, _⟩ := hb
    omega
  unfold wnB exV OkB
  rw [hl, htm]
  simp only [Bool.and_self, Bool.true_and, Bool.and_eq_true, decide_eq_true_eq, Int.add_zero, Int.sub_mul]
  omega
/-- A line from the hinge goes through bands just if it goes through all but the first one. -/
theorem thr_iff {b0 : Bd} {l : List Bd} (hk : okD (b0 :: l) = true) {n d : Int} (hl : lineB (mid b0) 0 n d = true) : thrB (mid b0) 0 n d (b0 :: l) = true ↔ ∀ b ∈ b0 :: l, b0.t < b.t → OkB b0.t (mid b0) b n d := by
  obtain ⟨hR, hT⟩ := okD_times hk
  have h0 := hR b0 (List.mem_cons_self ..)
  have hd := ((slopeB_iff _ _).1 ((lineB_iff _ _ _ _).1 hl).1).2.2.1
  unfold thrB
  rw [hk, Bool.true_and, headT, goes_iff]
  constructor
  · intro h b hb ht
    exact (wn_iff h0 (hR b hb) (by omega) hl).1 (h b hb)
  · intro h b hb
    rcases List.mem_cons.1 hb with e | hb2
    · subst e
      refine (wn_iff h0 h0 (Int.le_refl _) hl).2 ?_
      have hm := mid_in h0
      unfold OkB
      rw [Int.sub_self, Int.mul_zero]
      have a1 := Int.mul_nonneg (show (0 : Int) ≤ mid b - b.lo by omega) (show (0 : Int) ≤ d by omega)
      have a2 := Int.mul_nonneg (show (0 : Int) ≤ b.hi - mid b by omega) (show (0 : Int) ≤ d by omega)
      rw [Int.sub_mul] at a1 a2 ⊢
      rw [Int.sub_mul]
      omega
    · exact (wn_iff h0 (hR b hb) (by have := hT b hb2; omega) hl).2 (h b hb (hT b hb2))
/-- What is fitted is as near to 0 as any line that goes through. -/
theorem any_fits {m : List Bd} (hk : okD m = true) {n d : Int} (hs : slopeB n d = true) (ht : thrB (hinQ m) 0 (lowN n d) (lowD n d) m = true) :
    fitE m = 0 ∧ slopesB (sizeI (fitN m)) (fitD9 m) (sizeI (lowN n d)) (lowD n d) = true ∧ cpI (sizeI (fitN m)) (fitD9 m) (sizeI (lowN n d)) (lowD n d) ≤ 0 := by
  obtain ⟨b0, l, rfl⟩ := List.exists_cons_of_ne_nil (okD_ne hk)
  obtain ⟨hR, hT⟩ := okD_times hk
  have h0 := hR b0 (List.mem_cons_self ..)
  have hq : hinQ (b0 :: l) = mid b0 := by simp [hinQ, hk]
  rw [hq] at ht
  have hs' := low_bounds hs
  have hlow := lowest_again (n := n) (d := d) ((slopeB_iff _ _).1 hs).2.2.1
  generalize lowN n d = p at *
  generalize lowD n d = q at *
  have hq1 := ((slopeB_iff _ _).1 hs').2.2.1
  obtain ⟨e1, e2⟩ := all_in hR hs' ((thr_iff hk (line_ok h0 hs' hlow)).1 ht)
  have hE : fitE (b0 :: l) = 0 := by rw [fitE, hk, e1]; simp
  have hok := firX_ok (okD_ne hk) hR
  have hle := flat_least hok hq1 e2
  have hfl := (flat_ok hok).1
  have ef : fitN (b0 :: l) = flatN (firX (b0 :: l)) ∧ fitD9 (b0 :: l) = flatE (firX (b0 :: l)) := by simp [fitN, fitD9, hE]
  rw [ef.1, ef.2]
  generalize flatN (firX (b0 :: l)) = x at *
  generalize flatE (firX (b0 :: l)) = y at *
  have hsl : slopesB (sizeI x) y (sizeI p) q = true := by
    rw [slopesB, Bool.and_eq_true, slopeB_iff, slopeB_iff]
    rw [slopeB_iff] at hfl hs'
    have b1 : -4611688217450643456 ≤ sizeI x ∧ sizeI x ≤ 4611688217450643456 := by unfold sizeI; split <;> omega
    have b2 : -4611688217450643456 ≤ sizeI p ∧ sizeI p ≤ 4611688217450643456 := by unfold sizeI; split <;> omega
    exact ⟨⟨b1.1, b1.2, hfl.2.2⟩, ⟨b2.1, b2.2, hs'.2.2⟩⟩
  refine ⟨hE, hsl, ?_⟩
  simp only [cpI, hsl, if_true, cmpI]
  split
  · exact Int.le_refl _
  · rw [if_pos (by omega)]; decide
set_option maxHeartbeats 1000000 in
theorem abs_any (n : Int) (h1 : -4611688217450643456 ≤ n) (h2 : n ≤ 4611688217450643456) (W : World) : Calls Try.prog 14 #[.int .i64 n] W (Ret W (.int .i64 (sizeI n))) := by
  have e1 : wrap64 (-n) = -n := i64_keeps (by omega) (by omega)
  unfold sizeI
  by_cases g : n < -n
  · rw [if_pos g]
    have i1 : max n (-n) = -n := by omega
    clear h1 h2
    go_enter Try.func14, Try.ntmps14
    go_wp2_with fail
    go_returns
    exact ⟨rfl, Below.refl _ _⟩
  · rw [if_neg g]
    have i1 : max n (-n) = n := by omega
    clear h1 h2
    go_enter Try.func14, Try.ntmps14
    go_wp2_with fail
    go_returns
    exact ⟨rfl, Below.refl _ _⟩
set_option maxRecDepth 100000 in
set_option maxHeartbeats 4000000 in
theorem any_any (sn sd : Int) (l : List Bd) (hl : l.length ≤ 9223372036854775807) (v : Value) (w : World) (h : ReadsD w v l) : Calls Try.prog 4 #[slV sn sd, v] w (Ret w (.bool true)) := by
  have WK := Lib.hid wakes_any
  have OW := Lib.hid (fun W (hb : Below w.heap.size w W) => own_any l hl v W (h.below hb))
  obtain ⟨A, c, rfl, _, _⟩ := h
  have hml : (l.take 260).length ≤ 260 := by rw [List.length_take]; omega
  generalize l.take 260 = m at *
  go_enter Try.func4, Try.ntmps4
  go_wp2_with fail
  refine (WK.out _).mono ?_
  rintro e w1 ⟨rfl, hb⟩
  have hHeld : Keeps w [(w.heap.size, 0, .int .i64 sn), (w.heap.size, 1, .int .i64 sd)] _ := Keeps.next (by refine ⟨by go_grown, ?_⟩; simp [Cells, go_sem]) hb
  clear hb
  obtain ⟨⟨kz0, kc0, kf0⟩, ⟨kz1, kc1, kf1⟩, _⟩ := hHeld.2
  go_wp2_with fail
  refine (OW.out w1 hHeld.1).mono ?_
  rintro e w2 hh
  obtain ⟨hb2, A2, c2, rfl, hc2, hr2⟩ := hh.open
  replace hHeld := hHeld.next hb2
  have HI := Lib.hid (hin_any m (by omega) _ w2 hr2)
  have H2 := Lib.hid hr2
  clear hh hb2 WK OW hr2 kz0 kc0 kf0 kz1 kc1 kf1
  go_wp2_with fail
  refine HI.out.mono ?_
  rintro e w3 ⟨rfl, hb3⟩
  replace hHeld := hHeld.next hb3
  have HB3 := Lib.hid hb3
  clear hb3 HI
  obtain ⟨⟨kz0, kc0, kf0⟩, ⟨kz1, kc1, kf1⟩, _⟩ := hHeld.2
  cases gk : okD m
  · have e1 : hinE m = 180 := by simp [hinE, gk]
    have e2 : hinQ m = 0 := by cases m <;> simp [hinQ, gk]
    rw [e1, e2]
    clear e1 e2 gk H2
    go_wp2_with fail
    go_ret
    exact ⟨rfl, hHeld.1⟩
  · have e1 : hinE m = 0 := by simp [hinE, gk]
    rw [e1]
    have hbk : backB (hinQ m) = true := by
      obtain ⟨b0, l', rfl⟩ := List.exists_cons_of_ne_nil (okD_ne gk)
      have h0 := (okD_times gk).1 b0 (List.mem_cons_self ..)
      obtain ⟨_, h2, h3⟩ := band_ok h0
      have hm := mid_in h0
      have hq : hinQ (b0 :: l') = mid b0 := by simp [hinQ, gk]
      rw [hq]
      rw [backB_iff] at *
      omega
    cases hs : slopeB sn sd
    · have LO := Lib.hid (fun W => lof_any (hinQ m) sn sd 0 0 0 0 151 (.inl ⟨hs, rfl, rfl, rfl, rfl, rfl⟩) W)
      clear e1 gk hbk hs H2
      generalize hinQ m = q at *
      go_wp2_with fail
      refine (LO.out _).mono ?_
      rintro e w4 ⟨rfl, hb4⟩
      go_wp2_with fail
      go_ret
      exact ⟨rfl, under hHeld.1 (hb4.alloc hb4.size _)⟩
    · have LO := Lib.hid (fun W => lof_any (hinQ m) sn sd (hinQ m) 0 (lowN sn sd) (lowD sn sd) 0 (.inr ⟨hs, .inr ⟨hbk, rfl, rfl, rfl, rfl, rfl⟩⟩) W)
      have TH := Lib.hid (fun W (hb : Below w2.heap.size w2 W) => thr_any (hinQ m) 0 (lowN sn sd) (lowD sn sd) m (by omega) _ W (H2.out.below hb))
      have FI := Lib.hid (fun W (hb : Below w2.heap.size w2 W) => fit9_any m (by omega) _ W (H2.out.below hb))
      have hbs := (slopeB_iff _ _).1 (low_bounds hs)
      cases gt : thrB (hinQ m) 0 (lowN sn sd) (lowD sn sd) m
      · rw [gt] at TH
        clear e1 gk hbk hs H2 FI gt hbs
        generalize hinQ m = q at *
        generalize lowN sn sd = x at *
        generalize lowD sn sd = y at *
        go_wp2_with fail
        refine (LO.out _).mono ?_
        rintro e w4 ⟨rfl, hb4⟩
        have hB4 := under HB3.out (hb4.alloc hb4.size (.cells #[.int .i64 q, .int .i64 0, .int .i64 x, .int .i64 y] 26))
        go_wp2_with fail
        refine (TH.out _ hB4).mono ?_
        rintro e w5 ⟨rfl, hb5⟩
        go_wp2_with fail
        go_ret
        exact ⟨rfl, under (under hHeld.1 (hb4.alloc hb4.size _)) hb5⟩
      · rw [gt] at TH
        obtain ⟨f1, f2, f3⟩ := any_fits gk hs gt
        have CP := Lib.hid (fun W => cmp_any (sizeI (fitN m)) (fitD9 m) (sizeI (lowN sn sd)) (lowD sn sd) W)
        rw [f2] at CP
        rw [f1] at FI
        have A1 := Lib.hid (fun W => abs_any (fitN m) (by
          have := (slopeB_iff _ _).1 ((Bool.and_eq_true _ _ ▸ f2 : _ ∧ _).1)
          unfold sizeI at this
          split at this <;> omega) (by
          have := (slopeB_iff _ _).1 ((Bool.and_eq_true _ _ ▸ f2 : _ ∧ _).1)
          unfold sizeI at this
          split at this <;> omega) W)
        have A2 := Lib.hid (fun W => abs_any (lowN sn sd) hbs.1 hbs.2.1 W)
        have i9 : decide (cpI (sizeI (fitN m)) (fitD9 m) (sizeI (lowN sn sd)) (lowD sn sd) ≤ 0) = true := decide_eq_true f3
        clear e1 gk hbk hs H2 gt hbs f1 f2 f3
        generalize cpI (sizeI (fitN m)) (fitD9 m) (sizeI (lowN sn sd)) (lowD sn sd) = cc at *
        generalize sizeI (fitN m) = s1 at *
        generalize sizeI (lowN sn sd) = s2 at *
        generalize hinQ m = q at *
        generalize lowN sn sd = x at *
        generalize lowD sn sd = y at *
        generalize fitA m = fa at *
        generalize fitN m = fx at *
        generalize fitD9 m = fy at *
        go_wp2_with fail
        refine (LO.out _).mono ?_
        rintro e w4 ⟨rfl, hb4⟩
        have hB4 := under HB3.out (hb4.alloc hb4.size (.cells #[.int .i64 q, .int .i64 0, .int .i64 x, .int .i64 y] 26))
        go_wp2_with fail
        refine (TH.out _ hB4).mono ?_
        rintro e w5 ⟨rfl, hb5⟩
        go_wp2_with fail
        refine (FI.out _ (under hB4 hb5)).mono ?_
        rintro e w6 ⟨rfl, hb6⟩
        have hK4 : Keeps w [(w4.heap.size, 2, .int .i64 x), (w4.heap.size, 3, .int .i64 y)] (w4.alloc (.cells #[.int .i64 q, .int .i64 0, .int .i64 x, .int .i64 y] 26)) := ⟨under hHeld.1 (hb4.alloc hb4.size _), by simp [Cells, go_sem]⟩
        have hK6 := ((hK4.next hb5).next hb6).alloc (.cells #[.int .i64 fa, .int .i64 0, .int .i64 fx, .int .i64 fy] 26)
        have hN6 : Cells [(w6.heap.size, 2, .int .i64 fx), (w6.heap.size, 3, .int .i64 fy)] (w6.alloc (.cells #[.int .i64 fa, .int .i64 0, .int .i64 fx, .int .i64 fy] 26)) := by simp [Cells, go_sem]
        have hS : Keeps w [(w4.heap.size, 2, .int .i64 x), (w4.heap.size, 3, .int .i64 y), (w6.heap.size, 2, .int .i64 fx), (w6.heap.size, 3, .int .i64 fy)] (w6.alloc (.cells #[.int .i64 fa, .int .i64 0, .int .i64 fx, .int .i64 fy] 26)) := ⟨hK6.1, hK6.2.1, hK6.2.2.1, hN6⟩
        clear hK4 hK6 hN6 hB4 hb4 hb5 hb6 HB3 TH LO FI hHeld kz0 kc0 kf0 kz1 kc1 kf1
        go_wp2_with fail
        refine region_keeps (w0 := w) (L := [(w4.heap.size, 2, .int .i64 x), (w4.heap.size, 3, .int .i64 y), (w6.heap.size, 2, .int .i64 fx), (w6.heap.size, 3, .int .i64 fy)]) (by kernel_rfl) hS (fun hHeld0 => ?_)
        refine wpAnyH_take (i := 0) (oi := ⟨some 60, _, _, _, _, _⟩) (v := ?_) rfl (by kernel_rfl) (by kernel_rfl) (by kernel_rfl) (fun _ _ _ h => h) (Or.inl ⟨by rfl, ?_⟩) (by assumption) ?_
        rotate_left
        · intro wq hSw; go_simp; (try with_reducible rfl)
        try simp only [Act.put, List.setIfInBounds_toArray, List.set_cons_zero, List.set_cons_succ]
        refine wpAnyH_take (i := 1) (oi := ⟨some 61, _, _, _, _, _⟩) (v := ?_) rfl (by kernel_rfl) (by kernel_rfl) (by kernel_rfl) (fun _ _ _ h => h) (Or.inl ⟨by rfl, ?_⟩) (by assumption) ?_
        rotate_left
        · intro wq hSw; go_simp; (try with_reducible rfl)
        try simp only [Act.put, List.setIfInBounds_toArray, List.set_cons_zero, List.set_cons_succ]
        refine wpAnyH_take (i := 2) (oi := ⟨some 62, _, _, _, _, _⟩) (v := ?_) rfl (by kernel_rfl) (by kernel_rfl) (by kernel_rfl) (fun _ _ _ h => h) (Or.inl ⟨by rfl, ?_⟩) (by assumption) ?_
        rotate_left
        · intro wq hSw; obtain ⟨⟨qz0, qc0, qf0⟩, ⟨qz1, qc1, qf1⟩, ⟨qz2, qc2, qf2⟩, ⟨qz3, qc3, qf3⟩, _⟩ := hSw.2; go_simp; (try with_reducible rfl)
        try simp only [Act.put, List.setIfInBounds_toArray, List.set_cons_zero, List.set_cons_succ]
        refine wpAnyH_take (i := 4) (oi := ⟨some 64, _, _, _, _, _⟩) (v := ?_) rfl (by kernel_rfl) (by kernel_rfl) (by kernel_rfl) (fun _ _ _ h => h) (Or.inl ⟨by rfl, ?_⟩) (by assumption) ?_
        rotate_left
        · intro wq hSw; go_simp; (try with_reducible rfl)
        try simp only [Act.put, List.setIfInBounds_toArray, List.set_cons_zero, List.set_cons_succ]
        refine wpAnyH_take (i := 5) (oi := ⟨some 65, _, _, _, _, _⟩) (v := ?_) rfl (by kernel_rfl) (by kernel_rfl) (by kernel_rfl) (fun _ _ _ h => h) (Or.inl ⟨by rfl, ?_⟩) (by assumption) ?_
        rotate_left
        · intro wq hSw; obtain ⟨⟨qz0, qc0, qf0⟩, ⟨qz1, qc1, qf1⟩, ⟨qz2, qc2, qf2⟩, ⟨qz3, qc3, qf3⟩, _⟩ := hSw.2; go_simp; (try with_reducible rfl)
        try simp only [Act.put, List.setIfInBounds_toArray, List.set_cons_zero, List.set_cons_succ]
        refine wpAnyH_take (i := 7) (oi := ⟨some 67, _, _, _, _, _⟩) (v := ?_) rfl (by kernel_rfl) (by kernel_rfl) (by kernel_rfl) (fun _ _ _ h => h) (Or.inl ⟨by rfl, ?_⟩) (by assumption) ?_
        rotate_left
        · intro wq hSw; go_simp; (try with_reducible rfl)
        try simp only [Act.put, List.setIfInBounds_toArray, List.set_cons_zero, List.set_cons_succ]
        refine wpAnyH_take (i := 8) (oi := ⟨some 68, _, _, _, _, _⟩) (v := ?_) rfl (by kernel_rfl) (by kernel_rfl) (by kernel_rfl) (fun _ _ _ h => h) (Or.inl ⟨by rfl, ?_⟩) (by assumption) ?_
        rotate_left
        · intro wq hSw; go_simp; (try with_reducible rfl)
        try simp only [Act.put, List.setIfInBounds_toArray, List.set_cons_zero, List.set_cons_succ]
        refine wpAnyH_take (i := 9) (oi := ⟨some 69, _, _, _, _, _⟩) (v := ?_) rfl (by kernel_rfl) (by kernel_rfl) (by kernel_rfl) (fun _ _ _ h => h) (Or.inl ⟨by rfl, ?_⟩) (by assumption) ?_
        rotate_left
        · intro wq hSw; obtain ⟨⟨qz0, qc0, qf0⟩, ⟨qz1, qc1, qf1⟩, ⟨qz2, qc2, qf2⟩, ⟨qz3, qc3, qf3⟩, _⟩ := hSw.2; go_simp; (try with_reducible rfl)
        try simp only [Act.put, List.setIfInBounds_toArray, List.set_cons_zero, List.set_cons_succ]
        refine wpAnyH_take (i := 11) (oi := ⟨some 71, _, _, _, _, _⟩) (v := ?_) rfl (by kernel_rfl) (by kernel_rfl) (by kernel_rfl) (fun _ _ _ h => h) (Or.inl ⟨by rfl, ?_⟩) (by assumption) ?_
        rotate_left
        · intro wq hSw; go_simp; (try with_reducible rfl)
        try simp only [Act.put, List.setIfInBounds_toArray, List.set_cons_zero, List.set_cons_succ]
        refine wpAnyH_take (i := 12) (oi := ⟨some 72, _, _, _, _, _⟩) (v := ?_) rfl (by kernel_rfl) (by kernel_rfl) (by kernel_rfl) (fun _ _ _ h => h) (Or.inl ⟨by rfl, ?_⟩) (by assumption) ?_
        rotate_left
        · intro wq hSw; obtain ⟨⟨qz0, qc0, qf0⟩, ⟨qz1, qc1, qf1⟩, ⟨qz2, qc2, qf2⟩, ⟨qz3, qc3, qf3⟩, _⟩ := hSw.2; go_simp; (try with_reducible rfl)
        try simp only [Act.put, List.setIfInBounds_toArray, List.set_cons_zero, List.set_cons_succ]
        refine wpAnyH_ready (rs := [3]) (by kernel_rfl) (by simp) ?_
        refine AllReadyH.cons (o := ⟨some 63, _, _, _, _, _⟩) rfl (fun K hK => ?_) AllReadyH.nil
        go_simp
        (first | ((with_reducible refine Calls.mono (A1.out _) ?_); rintro e w7 ⟨rfl, hb⟩) | ((with_reducible refine Calls.mono (A2.out _) ?_); rintro e w7 ⟨rfl, hb⟩) | ((with_reducible refine Calls.mono (CP.out _) ?_); rintro e w7 ⟨rfl, hb⟩))
        refine hK.out _ _ (hHeld0.next hb) (fun hHeld1 => ?_)
        clear hK K
        try clear hb
        try simp only [Act.put, List.setIfInBounds_toArray, List.set_cons_zero, List.set_cons_succ]
        refine wpAnyH_take (i := 6) (oi := ⟨some 66, _, _, _, _, _⟩) (v := ?_) rfl (by kernel_rfl) (by kernel_rfl) (by kernel_rfl) (fun _ _ _ h => h) (Or.inl ⟨by rfl, ?_⟩) (by assumption) ?_
        rotate_left
        · intro wq hSw; go_simp; (try with_reducible rfl)
        try simp only [Act.put, List.setIfInBounds_toArray, List.set_cons_zero, List.set_cons_succ]
        refine wpAnyH_ready (rs := [10]) (by kernel_rfl) (by simp) ?_
        refine AllReadyH.cons (o := ⟨some 70, _, _, _, _, _⟩) rfl (fun K hK => ?_) AllReadyH.nil
        go_simp
        (first | ((with_reducible refine Calls.mono (A1.out _) ?_); rintro e w7 ⟨rfl, hb⟩) | ((with_reducible refine Calls.mono (A2.out _) ?_); rintro e w7 ⟨rfl, hb⟩) | ((with_reducible refine Calls.mono (CP.out _) ?_); rintro e w7 ⟨rfl, hb⟩))
        refine hK.out _ _ (hHeld1.next hb) (fun hHeld2 => ?_)
        clear hK K
        try clear hb
        try simp only [Act.put, List.setIfInBounds_toArray, List.set_cons_zero, List.set_cons_succ]
        refine wpAnyH_take (i := 13) (oi := ⟨some 73, _, _, _, _, _⟩) (v := ?_) rfl (by kernel_rfl) (by kernel_rfl) (by kernel_rfl) (fun _ _ _ h => h) (Or.inl ⟨by rfl, ?_⟩) (by assumption) ?_
        rotate_left
        · intro wq hSw; go_simp; (try with_reducible rfl)
        try simp only [Act.put, List.setIfInBounds_toArray, List.set_cons_zero, List.set_cons_succ]
        refine wpAnyH_ready (rs := [14]) (by kernel_rfl) (by simp) ?_
        refine AllReadyH.cons (o := ⟨some 74, _, _, _, _, _⟩) rfl (fun K hK => ?_) AllReadyH.nil
        go_simp
        (first | ((with_reducible refine Calls.mono (A1.out _) ?_); rintro e w7 ⟨rfl, hb⟩) | ((with_reducible refine Calls.mono (A2.out _) ?_); rintro e w7 ⟨rfl, hb⟩) | ((with_reducible refine Calls.mono (CP.out _) ?_); rintro e w7 ⟨rfl, hb⟩))
        refine hK.out _ _ (hHeld2.next hb) (fun hHeld3 => ?_)
        clear hK K
        try clear hb
        try simp only [Act.put, List.setIfInBounds_toArray, List.set_cons_zero, List.set_cons_succ]
        refine wpAnyH_take (i := 15) (oi := ⟨some 59, _, _, _, _, _⟩) (v := ?_) rfl (by kernel_rfl) (by kernel_rfl) (by kernel_rfl) (fun _ _ _ h => h) (Or.inl ⟨by rfl, ?_⟩) (by assumption) ?_
        rotate_left
        · intro wq hSw; go_simp; (try with_reducible rfl)
        try simp only [Act.put, List.setIfInBounds_toArray, List.set_cons_zero, List.set_cons_succ]
        refine wpAnyH_take (i := 16) (oi := ⟨some 75, _, _, _, _, _⟩) (v := ?_) rfl (by kernel_rfl) (by kernel_rfl) (by kernel_rfl) (fun _ _ _ h => h) (Or.inl ⟨by rfl, ?_⟩) (by assumption) ?_
        rotate_left
        · intro wq hSw; go_simp; (try with_reducible rfl)
        try simp only [Act.put, List.setIfInBounds_toArray, List.set_cons_zero, List.set_cons_succ]
        refine wpAnyH_take (i := 17) (oi := ⟨some 76, _, _, _, _, _⟩) (v := ?_) rfl (by kernel_rfl) (by kernel_rfl) (by kernel_rfl) (fun _ _ _ h => h) (Or.inl ⟨by rfl, ?_⟩) (by assumption) ?_
        rotate_left
        · intro wq hSw; go_simp; (try with_reducible rfl)
        try simp only [Act.put, List.setIfInBounds_toArray, List.set_cons_zero, List.set_cons_succ]
        refine wpAnyH_take (i := 18) (oi := ⟨some 13, _, _, _, _, _⟩) (v := ?_) rfl (by kernel_rfl) (by kernel_rfl) (by kernel_rfl) (fun _ _ _ h => h) (Or.inl ⟨by rfl, ?_⟩) (by assumption) ?_
        rotate_left
        · intro wq hSw; go_simp; (try with_reducible rfl)
        try simp only [Act.put, List.setIfInBounds_toArray, List.set_cons_zero, List.set_cons_succ]
        refine wpAnyH_take (i := 19) (oi := ⟨some 14, _, _, _, _, _⟩) (v := ?_) rfl (by kernel_rfl) (by kernel_rfl) (by kernel_rfl) (fun _ _ _ h => h) (Or.inl ⟨by rfl, ?_⟩) (by assumption) ?_
        rotate_left
        · intro wq hSw; go_simp; (try with_reducible rfl)
        try simp only [Act.put, List.setIfInBounds_toArray, List.set_cons_zero, List.set_cons_succ]
        refine wpAnyH_done (by kernel_rfl) ?_ _
        have hHeld := hHeld3
        obtain ⟨⟨kz0, kc0, kf0⟩, ⟨kz1, kc1, kf1⟩, ⟨kz2, kc2, kf2⟩, ⟨kz3, kc3, kf3⟩, _⟩ := hHeld.2
        all_goals
          go_wp2_with fail
          go_ret
          exact ⟨rfl, hHeld.1⟩
end Go.Proofs.Ytlhjijigpjfokaa.P9
