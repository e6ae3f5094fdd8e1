/-
  The document's own answers for layer 10: which line is told. Conditions: those written at each fact.
-/
import Derived.Maps.RangeWalk
import Derived.Test.YtmdhgiaaofdjiaaGreatDcS
import Derived.Test.YtmdhgiaaofdjiaaGreatDcF
import Derived.Test.YtmdhgiaaofdjiaaGreatSlM
import Derived.Test.YtmdhgiaaofdjiaaGreatLdD
import Derived.Test.YtmdhgiaaofdjiaaGreatSlopes
namespace Go.Proofs.YtmdhgiaaofdjiaaGreat.P10
open Go.RowKit Go.Shelf Go.Proofs.YtmdhgiaaofdjiaaGreat.P8

theorem low_nonpos {n d : Int} (h : 1 ≤ d) (hn : n ≤ 0) : lowN n d ≤ 0 := by
  by_cases g : n < 0
  · have := (low_sign (n := n) h).2 g; omega
  · have e : n = 0 := by omega
    subst e
    simp [lowN]
theorem low_nonneg {n d : Int} (h : 1 ≤ d) (hn : 0 ≤ n) : 0 ≤ lowN n d := by
  by_cases g : 0 < n
  · have := (low_sign (n := n) h).1 g; omega
  · have e : n = 0 := by omega
    subst e
    simp [lowN]
/-- The flattest of the slopes, told from their lowest terms. -/
theorem near_low {s : Sl} (h : StOk s) : 0 < (lowS s).a ∧ flatN s = lowN (lowS s).a (lowS s).b ∧ flatE s = lowD (lowS s).a (lowS s).b ∨ (lowS s).a ≤ 0 ∧ (lowS s).c < 0 ∧ flatN s = lowN (lowS s).c (lowS s).d ∧ flatE s = lowD (lowS s).c (lowS s).d ∨ (lowS s).a ≤ 0 ∧ 0 ≤ (lowS s).c ∧ flatN s = 0 ∧ flatE s = 1 := by
  have h1 := ((slopeB_iff _ _).1 h.lo).2.2.1
  have h2 := ((slopeB_iff _ _).1 h.hi).2.2.1
  have e1 := lowest_again (n := s.a) h1
  have e2 := lowest_again (n := s.c) h2
  simp only [lowS]
  unfold flatN flatE
  by_cases g1 : 0 < s.a
  · rw [if_pos g1, if_pos g1]
    exact .inl ⟨(low_sign h1).1 g1, e1.1.symm, e1.2.symm⟩
  · rw [if_neg g1, if_neg g1]
    by_cases g2 : s.c < 0
    · rw [if_pos g2, if_pos g2]
      exact .inr (.inl ⟨low_nonpos h1 (by omega), (low_sign h2).2 g2, e2.1.symm, e2.2.symm⟩)
    · rw [if_neg g2, if_neg g2]
      exact .inr (.inr ⟨low_nonpos h1 (by omega), low_nonneg h2 (by omega), rfl, rfl⟩)
set_option maxRecDepth 100000 in
set_option maxHeartbeats 8000000 in
theorem refFit_any (l : List Bd) (hk : okD l = true) (v : Value) (w : World) (h : ReadsD w v l) : Calls Tryz.prog 30 #[v] w (Ret w (.tuple #[lnV (fitA l) (fitR l) (fitN l) (fitD l), .bool (decide (fitE l = 0))])) := by
  have hne := okD_ne hk
  have hl := (okD_facts hk).2.1
  have hR := row_ok hk
  have hr := h
  have hst := all_ok hR
  have hai := all_iff hR
  obtain ⟨A, c, rfl, _, _⟩ := h
  have SL := Lib.hid (fun W (hb : Below w.heap.size w W) => refSlopes_any l (by omega) hR _ W (hr.below hb))
  cases gs : shutS (allS l)
  · have hn : firN l = l.length := by
      rw [gs] at hai
      have := of_decide_eq_false hai.symm
      have := (firN_le hne).2
      omega
    have hF := flat_all hk hn
    have eA : firS l = allS l := by rw [firS, hn, List.take_length]
    rw [eA] at hF
    have e : fitE l = 0 := by simp [fitE, hk, hn]
    have e1 : fitA l = lineC l (allS l) / flatE (allS l) := by rw [fitA, if_pos e, eA]
    have e2 : fitR l = lineC l (allS l) % flatE (allS l) := by rw [fitR, if_pos e, eA]
    have e3 : fitN l = flatN (allS l) := by rw [fitN, if_pos e, eA]
    have e4 : fitD l = flatE (allS l) := by rw [fitD, if_pos e, eA]
    have eS : sloR l = lowS (allS l) := by simp [sloR, gs]
    rw [e1, e2, e3, e4, e, decide_eq_true rfl]
    rw [eS, gs] at SL
    have f1 := (flat_ok hst).1
    have f2 := (slopeB_iff _ _).1 f1
    have NE := Lib.hid (fun W => Go.Proofs.YtmdhgiaaofdjiaaGreat.refNearest_any _ _ _ _ (flatN (allS l)) (flatE (allS l)) (low_bounds hst.lo) (low_bounds hst.hi) (near_low hst) W)
    have LO := Lib.hid (fun W (hb : Below w.heap.size w W) => refLow_any (flatN (allS l)) (flatE (allS l)) l hne (by omega) hF.cap _ W (hr.below hb))
    have RA := Lib.hid (fun b1 A1 n1 c1 W hN => Go.Proofs.YtmdhgiaaofdjiaaGreat.refRaised_any (lineC l (allS l)) (flatN (allS l)) (flatE (allS l)) _ _ _ _ _ (low_fits hF.cap) (by omega) (by omega) (.inr ⟨hF.back, rfl, rfl, rfl, rfl, rfl⟩) b1 A1 n1 c1 W hN)
    have EL : lowC (headT l) (flatN (allS l)) (flatE (allS l)) l = lineC l (allS l) := rfl
    rw [EL] at LO
    clear e1 e2 e3 e4 e eS eA hF hn f1 f2 hst hai hr hR hne gs EL hk
    generalize lineC l (allS l) = C at *
    generalize C / flatE (allS l) = x0 at *
    generalize C % flatE (allS l) = x1 at *
    generalize flatN (allS l) = x2 at *
    generalize flatE (allS l) = x3 at *
    have SA : Hid (∀ W, Below w.heap.size w W → Calls Tryz.prog 29 #[.slice A l.length c] W (Ret W (.tuple #[slV (lowN (allS l).a (allS l).b) (lowD (allS l).a (allS l).b), slV (lowN (allS l).c (allS l).d) (lowD (allS l).c (allS l).d), .bool true]))) := SL
    clear SL
    generalize lowN (allS l).a (allS l).b = y0 at *
    generalize lowD (allS l).a (allS l).b = y1 at *
    generalize lowN (allS l).c (allS l).d = y2 at *
    generalize lowD (allS l).c (allS l).d = y3 at *
    go_enter Tryz.func30, Tryz.ntmps30
    go_wp2_with fail
    refine (SA.out _ (below_alloc w _)).mono ?_
    rintro en w1 ⟨rfl, hb1⟩
    have hK0 : Keeps w [(w.heap.size, 0, .int .i64 0), (w.heap.size, 1, .int .i64 0), (w.heap.size, 2, .int .i64 0), (w.heap.size, 3, .int .i64 0)] w1 := Keeps.next (by refine ⟨below_alloc w _, ?_⟩; simp [Cells, go_sem]) hb1
    have h1 := (hK0.alloc (.cells #[.int .i64 y0, .int .i64 y1] 45)).alloc (.cells #[.int .i64 y2, .int .i64 y3] 45)
    have HK1 := Lib.hid (Keeps.app (l := [(w1.heap.size, 0, .int .i64 y0), (w1.heap.size, 1, .int .i64 y1), (w1.heap.size + 1, 0, .int .i64 y2), (w1.heap.size + 1, 1, .int .i64 y3)]) ⟨h1.1, by simp [Cells, go_sem]⟩ h1)
    clear hK0 h1 hb1 SA
    go_upto_region 2 with (fail)
    have hHs : Keeps w [(w1.heap.size, 0, .int .i64 y0), (w1.heap.size, 1, .int .i64 y1), (w1.heap.size + 1, 0, .int .i64 y2), (w1.heap.size + 1, 1, .int .i64 y3), (w.heap.size, 0, .int .i64 0), (w.heap.size, 1, .int .i64 0), (w.heap.size, 2, .int .i64 0), (w.heap.size, 3, .int .i64 0)] ((w1.alloc (.cells #[.int .i64 y0, .int .i64 y1] 45)).alloc (.cells #[.int .i64 y2, .int .i64 y3] 45)) := HK1.out
    generalize (w1.alloc (.cells #[.int .i64 y0, .int .i64 y1] 45)).alloc (.cells #[.int .i64 y2, .int .i64 y3] 45) = wi at hHs ⊢
    generalize w1.heap.size = ga at *
    clear HK1
    have HH := Lib.hid hHs
    obtain ⟨⟨kz0, kc0, kf0⟩, ⟨kz1, kc1, kf1⟩, ⟨kz2, kc2, kf2⟩, ⟨kz3, kc3, kf3⟩, _⟩ := hHs.2
    clear hHs
    go_wp2_with fail
    refine (NE.out _).mono ?_
    rintro en w2 ⟨rfl, hb2⟩
    have hgs : w.heap.size < w2.heap.size := (HH.out.next hb2).2.2.2.2.2.1.1
    have h2 := (HH.out.next hb2).alloc (.cells #[.int .i64 x2, .int .i64 x3] 45)
    have HK2 := Lib.hid (Keeps.app (newK2 h2) h2)
    clear h2 hb2 NE HH kz0 kc0 kf0 kz1 kc1 kf1 kz2 kc2 kf2 kz3 kc3 kf3
    go_upto_region 5 with (fail)
    obtain ⟨hwi, s0, s1, _, _, _, _, r0, r1, r2, r3, _⟩ : Keeps w [(w2.heap.size, 0, .int .i64 x2), (w2.heap.size, 1, .int .i64 x3), (ga, 0, .int .i64 y0), (ga, 1, .int .i64 y1), (ga + 1, 0, .int .i64 y2), (ga + 1, 1, .int .i64 y3), (w.heap.size, 0, .int .i64 0), (w.heap.size, 1, .int .i64 0), (w.heap.size, 2, .int .i64 0), (w.heap.size, 3, .int .i64 0)] (w2.alloc (.cells #[.int .i64 x2, .int .i64 x3] 45)) := HK2.out
    generalize w2.alloc (.cells #[.int .i64 x2, .int .i64 x3] 45) = wj at *
    generalize w2.heap.size = gs at *
    clear HK2
    refine region_keepsB (w0 := w) (L := [(gs, 0, .int .i64 x2), (gs, 1, .int .i64 x3)]) (M := [(w.heap.size, 0, .int .i64 0), (w.heap.size, 1, .int .i64 0), (w.heap.size, 2, .int .i64 0), (w.heap.size, 3, .int .i64 0)]) (by kernel_rfl) ⟨hwi, s0, s1, trivial⟩ ⟨hwi, r0, r1, r2, r3, trivial⟩ (fun hHeld0 hT0 => ?_)
    refine wpAnyH_take (i := 0) (oi := ⟨some 20, _, _, _, _, _⟩) (v := ?_) rfl (by kernel_rfl) (by kernel_rfl) (by kernel_rfl) (fun _ _ _ h => h) (Or.inl ⟨by rfl, ?_⟩) (by assumption) ?_
    rotate_left
    · intro wq hSw; go_simp; (try with_reducible rfl)
    try go_frame
    refine wpAnyH_take (i := 1) (oi := ⟨some 21, _, _, _, _, _⟩) (v := ?_) rfl (by kernel_rfl) (by kernel_rfl) (by kernel_rfl) (fun _ _ _ h => h) (Or.inl ⟨by rfl, ?_⟩) (by assumption) ?_
    rotate_left
    · intro wq hSw; obtain ⟨⟨qz0, qc0, qf0⟩, ⟨qz1, qc1, qf1⟩, _⟩ := hSw.2; go_simp; (try with_reducible rfl)
    try go_frame
    refine wpAnyH_take (i := 3) (oi := ⟨some 23, _, _, _, _, _⟩) (v := ?_) rfl (by kernel_rfl) (by kernel_rfl) (by kernel_rfl) (fun _ _ _ h => h) (Or.inl ⟨by rfl, ?_⟩) (by assumption) ?_
    rotate_left
    · intro wq hSw; obtain ⟨⟨qz0, qc0, qf0⟩, ⟨qz1, qc1, qf1⟩, _⟩ := hSw.2; go_simp; (try with_reducible rfl)
    try go_frame
    refine wpAnyH_ready (rs := [2]) (by kernel_rfl) (by simp) ?_
    refine AllReadyH.cons (o := ⟨some 22, _, _, _, _, _⟩) rfl (fun K hK => ?_) AllReadyH.nil
    go_simp
    (first | ((with_reducible refine Calls.mono (LO.out _ (belK (L := [(gs, 0, .int .i64 x2), (gs, 1, .int .i64 x3)]) (by assumption))) ?_); rintro e wl ⟨bl, Al, nl, cl, rfl, hb, zl⟩) | ((with_reducible refine (RA.out _ _ _ _ _ (by first | exact zl | exact zl.below (Below.refl _ _).drew)).mono ?_); rintro e wq ⟨rfl, hb⟩))
    refine hK.out _ _ (hHeld0.next hb) (fun hHeld1 => ?_)
    replace hT0 := hT0.next hb
    clear hK K
    try clear hb
    try go_frame
    refine wpAnyH_ready (rs := [4]) (by kernel_rfl) (by simp) ?_
    refine AllReadyH.cons (o := ⟨some 24, _, _, _, _, _⟩) rfl (fun K hK => ?_) AllReadyH.nil
    go_simp
    (first | ((with_reducible refine Calls.mono (LO.out _ (belK (L := [(gs, 0, .int .i64 x2), (gs, 1, .int .i64 x3)]) (by assumption))) ?_); rintro e wl ⟨bl, Al, nl, cl, rfl, hb, zl⟩) | ((with_reducible refine (RA.out _ _ _ _ _ (by first | exact zl | exact zl.below (Below.refl _ _).drew)).mono ?_); rintro e wq ⟨rfl, hb⟩))
    refine hK.out _ _ (hHeld1.next hb) (fun hHeld2 => ?_)
    replace hT0 := hT0.next hb
    clear hK K
    try clear hb
    try go_frame
    refine wpAnyH_take (i := 5) (oi := ⟨some 25, _, _, _, _, _⟩) (v := ?_) rfl (by kernel_rfl) (by kernel_rfl) (by kernel_rfl) (fun _ _ _ h => h) (Or.inl ⟨by rfl, ?_⟩) (by assumption) ?_
    rotate_left
    · intro wq hSw; go_simp; (try with_reducible rfl)
    try go_frame
    refine wpAnyH_take (i := 6) (oi := ⟨some 26, _, _, _, _, _⟩) (v := ?_) rfl (by kernel_rfl) (by kernel_rfl) (by kernel_rfl) (fun _ _ _ h => h) (Or.inl ⟨by rfl, ?_⟩) (by assumption) ?_
    rotate_left
    · intro wq hSw; go_simp; (try with_reducible rfl)
    try go_frame
    refine wpAnyH_ready (rs := [7]) (by kernel_rfl) (by simp) ?_
    refine AllReadyH.cons (o := ⟨none, _, _, _, _, _⟩) rfl (fun K hK => ?_) AllReadyH.nil
    obtain ⟨⟨t0z0, t0c0, t0f0⟩, ⟨t0z1, t0c1, t0f1⟩, ⟨t0z2, t0c2, t0f2⟩, ⟨t0z3, t0c3, t0f3⟩, _⟩ := hT0.2; (try simp at t0z0); (try simp at t0c0); (try simp at t0f0); (try simp at t0z1); (try simp at t0c1); (try simp at t0f1); (try simp at t0z2); (try simp at t0c2); (try simp at t0f2); (try simp at t0z3); (try simp at t0c3); (try simp at t0f3)
    go_simp
    refine hK.out _ _ (by first | exact hHeld2.alloc _ | (repeat (first | (with_reducible exact hHeld2) | (with_reducible exact (Keeps.undrewR hHeld2)) | (refine Keeps.set ?_ (by simp <;> omega) (by simp <;> omega) _) | (with_reducible refine Keeps.drew ?_)))) (fun hHeld3 => ?_)
    clear hK K
    try clear hb
    try go_frame
    refine wpAnyH_take (i := 8) (oi := ⟨some 3, _, _, _, _, _⟩) (v := ?_) rfl (by kernel_rfl) (by kernel_rfl) (by kernel_rfl) (fun _ _ _ h => h) (Or.inl ⟨by rfl, ?_⟩) (by assumption) ?_
    rotate_left
    · intro wq hSw; go_simp; (try with_reducible rfl)
    try go_frame
    refine wpAnyH_done (by kernel_rfl) ?_ _
    have hHeld := hHeld3
    obtain ⟨⟨kz0, kc0, kf0⟩, ⟨kz1, kc1, kf1⟩, _⟩ := hHeld.2
    all_goals
      go_wp2_with fail
      refine bodyPost_ret (v := .tuple #[lnV x0 x1 x2 x3, .bool true]) (by simp [results, Tryz.results30, go_sem, *]) rfl ⟨rfl, hHeld.1⟩
  · have hn : firN l < l.length := by
      rw [gs] at hai
      exact of_decide_eq_true hai.symm
    have e : fitE l = 181 := by simp [fitE, hk, hn]
    have e1 : fitA l = 0 ∧ fitR l = 0 ∧ fitN l = 0 ∧ fitD l = 0 := by simp [fitA, fitR, fitN, fitD, e]
    have eS : sloR l = ⟨0, 0, 0, 0⟩ := by simp [sloR, gs]
    rw [e1.1, e1.2.1, e1.2.2.1, e1.2.2.2, e, decide_eq_false (by decide)]
    rw [eS, gs] at SL
    have SA : Hid (∀ W, Below w.heap.size w W → Calls Tryz.prog 29 #[.slice A l.length c] W (Ret W (.tuple #[slV 0 0, slV 0 0, .bool false]))) := SL
    clear SL e1 eS e hn hai hst hr hR hne gs hk
    go_enter Tryz.func30, Tryz.ntmps30
    go_wp2_with fail
    refine (SA.out _ (below_alloc w _)).mono ?_
    rintro en w1 ⟨rfl, hb1⟩
    have hK0 : Keeps w [(w.heap.size, 0, .int .i64 0), (w.heap.size, 1, .int .i64 0), (w.heap.size, 2, .int .i64 0), (w.heap.size, 3, .int .i64 0)] w1 := Keeps.next (by refine ⟨below_alloc w _, ?_⟩; simp [Cells, go_sem]) hb1
    have h1 := (hK0.alloc (.cells #[.int .i64 0, .int .i64 0] 45)).alloc (.cells #[.int .i64 0, .int .i64 0] 45)
    have HK1 := Lib.hid h1
    clear hK0 h1 hb1 SA
    go_upto_region 2 with (fail)
    have hHs : Keeps w [(w.heap.size, 0, .int .i64 0), (w.heap.size, 1, .int .i64 0), (w.heap.size, 2, .int .i64 0), (w.heap.size, 3, .int .i64 0)] ((w1.alloc (.cells #[.int .i64 0, .int .i64 0] 45)).alloc (.cells #[.int .i64 0, .int .i64 0] 45)) := HK1.out
    generalize (w1.alloc (.cells #[.int .i64 0, .int .i64 0] 45)).alloc (.cells #[.int .i64 0, .int .i64 0] 45) = wi at hHs ⊢
    generalize w1.heap.size = ga at *
    clear HK1
    obtain ⟨⟨kz0, kc0, kf0⟩, ⟨kz1, kc1, kf1⟩, ⟨kz2, kc2, kf2⟩, ⟨kz3, kc3, kf3⟩, _⟩ := hHs.2
    obtain ⟨d0, d1, d2, d3⟩ := set4 (W := wi) (B := w.heap.size) (u0 := .int .i64 0) (u1 := .int .i64 0) (u2 := .int .i64 0) (u3 := .int .i64 0) kc0 kc1 kc2 kc3
    have HBW := Lib.hid ((((hHs.1.setCell (p := ⟨w.heap.size, 0, none⟩) (Nat.le_refl _) (.int .i64 0)).setCell (p := ⟨w.heap.size, 1, none⟩) (Nat.le_refl _) (.int .i64 0)).setCell (p := ⟨w.heap.size, 2, none⟩) (Nat.le_refl _) (.int .i64 0)).setCell (p := ⟨w.heap.size, 3, none⟩) (Nat.le_refl _) (.int .i64 0))
    go_wp2_with fail
    refine bodyPost_ret (v := .tuple #[lnV 0 0 0 0, .bool false]) (by simp [results, Tryz.results30, go_sem, d0, d1, d2, d3]) rfl ⟨rfl, HBW.out⟩
end Go.Proofs.YtmdhgiaaofdjiaaGreat.P10
