/-
  Layer 9: the law SwingFits's walk. Conditions: those written at each fact.
-/
import Derived.Test.YtlhjijigpjfokaaSwQ
namespace Go.Proofs.Ytlhjijigpjfokaa.P9
open Go.RowKit Go.Shelf Go.Proofs.Ytlhjijigpjfokaa.P8

theorem firX_v {b0 : Bd} {l : List Bd} : (firX (b0 :: l)).v = mid b0 := (tv_fold _ _).2
theorem fit_line {b0 : Bd} {l : List Bd} (hk : okD (b0 :: l) = true) : lineB (mid b0) 0 (flatN (firX (b0 :: l))) (flatE (firX (b0 :: l))) = true := by
  obtain ⟨hR, _⟩ := okD_times hk
  have hf := flat_ok (firX_ok (okD_ne hk) hR)
  exact line_ok (hR b0 (List.mem_cons_self ..)) hf.1 hf.2
/-- What is fitted to the first part goes through it. -/
theorem part_thr {b0 : Bd} {l : List Bd} (hk : okD (b0 :: l) = true) (hk2 : okD ((b0 :: l).take (firN (b0 :: l))) = true) :
    thrB (mid b0) 0 (flatN (firX (b0 :: l))) (flatE (firX (b0 :: l))) ((b0 :: l).take (firN (b0 :: l))) = true := by
  obtain ⟨hR, _⟩ := okD_times hk
  have h0 := open_ok (hR b0 (List.mem_cons_self ..))
  have hok := firX_ok (okD_ne hk) hR
  have hd := ((slopeB_iff _ _).1 (flat_ok hok).1).2.2.1
  have hin := flat_in (firX_open (okD_ne hk))
  have hfold := (in_fold _ h0 (fun b hb => hR b (List.mem_of_mem_take hb)) hd).1 hin
  have e1 := firN_cons b0 l
  rw [e1, List.take_succ_cons] at hk2 ⊢
  refine (thr_iff hk2 (fit_line hk)).2 fun b hb ht => ?_
  refine hfold.2 b ?_ ht
  show b ∈ (b0 :: l).take (firN (b0 :: l))
  rw [e1, List.take_succ_cons]
  exact hb
theorem fit_thr {m : List Bd} (hk : okD m = true) (hE : fitE m = 0) : fitA m = hinQ m ∧ thrB (fitA m) 0 (fitN m) (fitD9 m) m = true ∧ lineB (fitA m) 0 (fitN m) (fitD9 m) = true := by
  obtain ⟨b0, l, rfl⟩ := List.exists_cons_of_ne_nil (okD_ne hk)
  have e1 : fitA (b0 :: l) = mid b0 := by simp [fitA, hE, firX_v]
  have e2 : fitN (b0 :: l) = flatN (firX (b0 :: l)) := by simp [fitN, hE]
  have e3 : fitD9 (b0 :: l) = flatE (firX (b0 :: l)) := by simp [fitD9, hE]
  have e4 : hinQ (b0 :: l) = mid b0 := by simp [hinQ, hk]
  have hn : firN (b0 :: l) = (b0 :: l).length := by
    have h1 := (firN_le (l := b0 :: l) (by simp)).2
    by_cases g : firN (b0 :: l) < (b0 :: l).length
    · rw [fitE, hk, if_pos rfl, if_pos g] at hE
      cases hE
    · omega
  rw [e1, e2, e3, e4]
  have ht : (b0 :: l).take (firN (b0 :: l)) = b0 :: l := by rw [hn, List.take_length]
  have := part_thr hk (by rw [ht]; exact hk)
  rw [ht] at this
  exact ⟨rfl, this, fit_line hk⟩
theorem at_in {a r n d t lo hi : Int} (h : wnB a r n d t lo hi = true) (h1 : backB lo = true) (h2 : backB hi = true) : tlE a r n d t = 0 ∧ lo ≤ tlQ a r n d t ∧ tlQ a r n d t ≤ hi := by
  unfold wnB at h
  simp only [Bool.and_eq_true, decide_eq_true_eq] at h
  obtain ⟨⟨hl, ht⟩, h3, h4⟩ := h
  have hd := ((slopeB_iff _ _).1 ((lineB_iff _ _ _ _).1 hl).1).2.2.1
  have q1 : lo ≤ exV a r n d t / d := (Int.le_ediv_iff_mul_le (by omega)).2 h3
  have q2 : exV a r n d t / d ≤ hi := Int.ediv_le_of_le_mul (by omega) h4
  have hb : backB (exV a r n d t / d) = true := by
    rw [backB_iff] at *
    omega
  have e1 : tlE a r n d t = 0 := by simp [tlE, hl, atE, ht, ovE, hb]
  have e2 : tlQ a r n d t = exV a r n d t / d := by simp [tlQ, hl, atQ, ht, ovQ, hb]
  rw [e1, e2]
  exact ⟨rfl, q1, q2⟩
set_option maxRecDepth 100000 in
set_option maxHeartbeats 4000000 in
theorem fits_any (l : List Bd) (hl : l.length ≤ 9223372036854775807) (v : Value) (w : World) (h : ReadsD w v l) : Calls Try.prog 3 #[v] w (Ret w (.bool true)) := by
  have WK := Lib.hid wakes_any
  have OW := Lib.hid (fun W (hb : Below w.heap.size w W) => own_any l hl v W (h.below hb))
  obtain ⟨A, c, rfl, _, _⟩ := h
  have hml : (l.take 260).length ≤ 260 := by rw [List.length_take]; omega
  generalize l.take 260 = m at *
  go_enter Try.func3, Try.ntmps3
  go_wp2_with fail
  refine (WK.out _).mono ?_
  rintro e w1 ⟨rfl, hb1⟩
  go_wp2_with fail
  refine (OW.out w1 hb1).mono ?_
  rintro e w2 hh
  obtain ⟨hb2, A2, c2, rfl, hc2, hr2⟩ := hh.open
  have HB2 := Lib.hid (under hb1 hb2)
  have FI := Lib.hid (fit9_any m (by omega) _ w2 hr2)
  have H2 := Lib.hid hr2
  clear hh hb1 hb2 WK OW hr2
  go_wp2_with fail
  refine FI.out.mono ?_
  rintro e w3 ⟨rfl, hb3⟩
  have HB3 := Lib.hid hb3
  clear FI
  by_cases hE : fitE m = 0
  · have hk : okD m = true := by
      cases gk : okD m
      · simp [fitE, gk] at hE
      · rfl
    obtain ⟨e1, e2, _⟩ := fit_thr hk hE
    have HI := Lib.hid (fun W (hb : Below w2.heap.size w2 W) => hin_any m (by omega) _ W (H2.out.below hb))
    have TH := Lib.hid (fun W (hb : Below w2.heap.size w2 W) => thr_any (fitA m) 0 (fitN m) (fitD9 m) m (by omega) _ W (H2.out.below hb))
    rw [← e1, show hinE m = 0 by simp [hinE, hk]] at HI
    rw [e2] at TH
    obtain ⟨b0, l', hm⟩ := List.exists_cons_of_ne_nil (okD_ne hk)
    have hfirst : m[0]? = some b0 := by rw [hm]; rfl
    obtain ⟨hR, hT⟩ := okD_times (by rw [← hm]; exact hk)
    rw [← hm] at hR
    have HW : Hid (∀ b ∈ m, BdOk b ∧ b0.t ≤ b.t ∧ tlE (fitA m) 0 (fitN m) (fitD9 m) (b.t - b0.t) = 0 ∧ b.lo ≤ tlQ (fitA m) 0 (fitN m) (fitD9 m) (b.t - b0.t) ∧ tlQ (fitA m) 0 (fitN m) (fitD9 m) (b.t - b0.t) ≤ b.hi) := Lib.hid (fun b hb => by
      have hg : goesB (fitA m) 0 (fitN m) (fitD9 m) b0.t m = true := by
        have := e2
        unfold thrB at this
        rw [hk, Bool.true_and] at this
        rwa [show headT m = b0.t by rw [hm]; rfl] at this
      have hok := hR b hb
      obtain ⟨_, k1, k2⟩ := band_ok hok
      refine ⟨hok, ?_, at_in ((goes_iff _ _ _ _ _ _).1 hg b hb) k1 k2⟩
      rw [hm] at hb
      rcases List.mem_cons.1 hb with rfl | hb
      · exact Int.le_refl _
      · exact Int.le_of_lt (hT b hb))
    have hlen : 0 < m.length := by rw [hm]; simp
    obtain ⟨t0, lo0, hi0⟩ := b0
    obtain ⟨h01, h02, _⟩ := hR _ (List.mem_of_getElem? hfirst)
    simp only at h01 h02
    rw [hE]
    clear e1 e2 hk hm hT hE hR
    generalize fitA m = fa at *
    generalize fitN m = fx at *
    generalize fitD9 m = fy at *
    have AT := Lib.hid (fun t W => at_any fa 0 fx fy t W)
    have H3 := Lib.hid hfirst
    clear hfirst
    have hS : Keeps w2 [(w3.heap.size, 0, .int .i64 fa), (w3.heap.size, 1, .int .i64 0), (w3.heap.size, 2, .int .i64 fx), (w3.heap.size, 3, .int .i64 fy)] (w3.alloc (.cells #[.int .i64 fa, .int .i64 0, .int .i64 fx, .int .i64 fy] 26)) := ⟨hb3.alloc hb3.size _, by simp [Cells, go_sem]⟩
    have HS0 := Lib.hid hS.1
    clear hb3 HB3
    obtain ⟨⟨kz0, kc0, kf0⟩, ⟨kz1, kc1, kf1⟩, ⟨kz2, kc2, kf2⟩, ⟨kz3, kc3, kf3⟩, _⟩ := id hS.2
    go_wp2_with fail
    refine (HI.out _ HS0.out).mono ?_
    rintro e w4 ⟨rfl, hb4⟩
    replace hS := hS.next hb4
    clear hb4 HI HS0 kz0 kc0 kf0 kz1 kc1 kf1 kz2 kc2 kf2 kz3 kc3 kf3
    have HS0 := Lib.hid hS.1
    obtain ⟨⟨kz0, kc0, kf0⟩, ⟨kz1, kc1, kf1⟩, ⟨kz2, kc2, kf2⟩, ⟨kz3, kc3, kf3⟩, _⟩ := id hS.2
    go_wp2_with fail
    refine (TH.out _ HS0.out).mono ?_
    rintro e w5 ⟨rfl, hb5⟩
    replace hS := hS.next hb5
    clear hb5 TH HS0 kz0 kc0 kf0 kz1 kc1 kf1 kz2 kc2 kf2 kz3 kc3 kf3
    have HS := Lib.hid hS
    clear hS
    obtain ⟨_, _, e', _, hk0⟩ := H2.out
    cases e'
    obtain ⟨bb, off, rfl, hbw, hp0, _⟩ := hk0 0 _ H3.out
    have HK := Lib.hid hk0
    have HP := Lib.hid hp0
    have hz : (0 : Int) < (m.length : Int) := by omega
    clear hk0 hp0 H3
    simp only [Nat.zero_mul, Nat.add_zero] at HP
    go_wp2_with fail
    go_loopw [65] (fun i wr => ∃ (k : Nat), i = .int .i64 k ∧ k ≤ m.length ∧ Hid (Keeps w2 [(w3.heap.size, 0, .int .i64 fa), (w3.heap.size, 1, .int .i64 0), (w3.heap.size, 2, .int .i64 fx), (w3.heap.size, 3, .int .i64 fy)] wr)) (fun i _ => m.length - (intOf i).toNat)
    case atStart => exact ⟨0, rfl, by omega, HS⟩
    case round =>
      obtain ⟨k, rfl, hkl, hB⟩ := hrel
      clear HS
      by_cases gk : k < m.length
      · obtain ⟨⟨t, lo, hi⟩, hx⟩ : ∃ s, m[k]? = some s := ⟨_, List.getElem?_eq_getElem gk⟩
        obtain ⟨_, _, e1, _, hc1, hc2', hc3⟩ := HK.out k _ hx
        cases e1
        have c1 := (hB.out.1.cell (p := ⟨bb, off + k * 3, none⟩) hbw).trans hc1
        have c2' := (hB.out.1.cell (p := ⟨bb, off + k * 3 + 1, none⟩) hbw).trans hc2'
        have c3 := (hB.out.1.cell (p := ⟨bb, off + k * 3 + 2, none⟩) hbw).trans hc3
        simp only at c1 c2' c3
        have i1 : (k : Int) < (m.length : Int) := by omega
        have i0 : (0 : Int) ≤ (k : Int) := by omega
        obtain ⟨⟨q1, q2, _⟩, o0, o1, o2, o3⟩ := HW.out _ (List.mem_of_getElem? hx)
        simp only at q1 q2 o0 o1 o2 o3
        have e1 : wrap64 (t - t0) = t - t0 := i64_keeps (by omega) (by omega)
        have e2 : IntKind.i64.wrap (t - t0) = t - t0 := by rw [IntKind.wrap_i64]; omega
        have AC := Lib.hid (fun W => AT.out (t - t0) W)
        rw [o1] at AC
        have j2 : ¬ tlQ fa 0 fx fy (t - t0) < lo := by omega
        have j3 : ¬ hi < tlQ fa 0 fx fy (t - t0) := by omega
        generalize tlQ fa 0 fx fy (t - t0) = y at *
        have hHeld := hB.out
        clear hc1 hc2' hc3 hx hB q1 q2 o0 o1 o2 o3
        go_wp2_with fail
        replace hHeld := (hHeld.alloc (.cells #[.int .i64 t, .int .i64 lo, .int .i64 hi] 34)).app (newK3 (hHeld.alloc (.cells #[.int .i64 t, .int .i64 lo, .int .i64 hi] 34)))
        refine region_keeps (w0 := w2) (L := [(w3.heap.size, 0, .int .i64 fa), (w3.heap.size, 1, .int .i64 0), (w3.heap.size, 2, .int .i64 fx), (w3.heap.size, 3, .int .i64 fy), (wr.heap.size, 0, .int .i64 t), (wr.heap.size, 1, .int .i64 lo), (wr.heap.size, 2, .int .i64 hi)]) (by kernel_rfl) hHeld (fun hHeld0 => ?_)
        refine wpAnyH_take (i := 0) (oi := ⟨some 70, _, _, _, _, _⟩) (v := ?_) rfl (by kernel_rfl) (by kernel_rfl) (by kernel_rfl) (fun _ _ _ h => h) (Or.inl ⟨by rfl, ?_⟩) (by assumption) ?_
        rotate_left
        · intro wq hSw; obtain ⟨⟨qz0, qc0, qf0⟩, ⟨qz1, qc1, qf1⟩, ⟨qz2, qc2, qf2⟩, ⟨qz3, qc3, qf3⟩, ⟨qz4, qc4, qf4⟩, ⟨qz5, qc5, qf5⟩, ⟨qz6, qc6, qf6⟩, _⟩ := hSw.2; have hp4 := (hSw.1.cell (p := ⟨bb, off, none⟩) hbw).trans HP.out; go_simp; (try with_reducible rfl)
        try simp only [Act.put, List.setIfInBounds_toArray, List.set_cons_zero, List.set_cons_succ]
        refine wpAnyH_take (i := 1) (oi := ⟨some 71, _, _, _, _, _⟩) (v := ?_) rfl (by kernel_rfl) (by kernel_rfl) (by kernel_rfl) (fun _ _ _ h => h) (Or.inl ⟨by rfl, ?_⟩) (by assumption) ?_
        rotate_left
        · intro wq hSw; go_simp; (try with_reducible rfl)
        try simp only [Act.put, List.setIfInBounds_toArray, List.set_cons_zero, List.set_cons_succ]
        refine wpAnyH_take (i := 2) (oi := ⟨some 72, _, _, _, _, _⟩) (v := ?_) rfl (by kernel_rfl) (by kernel_rfl) (by kernel_rfl) (fun _ _ _ h => h) (Or.inl ⟨by rfl, ?_⟩) (by assumption) ?_
        rotate_left
        · intro wq hSw; obtain ⟨⟨qz0, qc0, qf0⟩, ⟨qz1, qc1, qf1⟩, ⟨qz2, qc2, qf2⟩, ⟨qz3, qc3, qf3⟩, ⟨qz4, qc4, qf4⟩, ⟨qz5, qc5, qf5⟩, ⟨qz6, qc6, qf6⟩, _⟩ := hSw.2; have hp4 := (hSw.1.cell (p := ⟨bb, off, none⟩) hbw).trans HP.out; go_simp; (try with_reducible rfl)
        try simp only [Act.put, List.setIfInBounds_toArray, List.set_cons_zero, List.set_cons_succ]
        refine wpAnyH_take (i := 3) (oi := ⟨some 73, _, _, _, _, _⟩) (v := ?_) rfl (by kernel_rfl) (by kernel_rfl) (by kernel_rfl) (fun _ _ _ h => h) (Or.inl ⟨by rfl, ?_⟩) (by assumption) ?_
        rotate_left
        · intro wq hSw; go_simp; (try with_reducible rfl)
        try simp only [Act.put, List.setIfInBounds_toArray, List.set_cons_zero, List.set_cons_succ]
        refine wpAnyH_take (i := 4) (oi := ⟨some 74, _, _, _, _, _⟩) (v := ?_) rfl (by kernel_rfl) (by kernel_rfl) (by kernel_rfl) (fun _ _ _ h => h) (Or.inl ⟨by rfl, ?_⟩) (by assumption) ?_
        rotate_left
        · intro wq hSw; go_simp; (try with_reducible rfl)
        try simp only [Act.put, List.setIfInBounds_toArray, List.set_cons_zero, List.set_cons_succ]
        refine wpAnyH_take (i := 5) (oi := ⟨some 75, _, _, _, _, _⟩) (v := ?_) rfl (by kernel_rfl) (by kernel_rfl) (by kernel_rfl) (fun _ _ _ h => h) (Or.inl ⟨by rfl, ?_⟩) (by assumption) ?_
        rotate_left
        · intro wq hSw; go_simp; (try with_reducible rfl)
        try simp only [Act.put, List.setIfInBounds_toArray, List.set_cons_zero, List.set_cons_succ]
        refine wpAnyH_take (i := 6) (oi := ⟨some 76, _, _, _, _, _⟩) (v := ?_) rfl (by kernel_rfl) (by kernel_rfl) (by kernel_rfl) (fun _ _ _ h => h) (Or.inl ⟨by rfl, ?_⟩) (by assumption) ?_
        rotate_left
        · intro wq hSw; obtain ⟨⟨qz0, qc0, qf0⟩, ⟨qz1, qc1, qf1⟩, ⟨qz2, qc2, qf2⟩, ⟨qz3, qc3, qf3⟩, ⟨qz4, qc4, qf4⟩, ⟨qz5, qc5, qf5⟩, ⟨qz6, qc6, qf6⟩, _⟩ := hSw.2; have hp4 := (hSw.1.cell (p := ⟨bb, off, none⟩) hbw).trans HP.out; go_simp; (try with_reducible rfl)
        try simp only [Act.put, List.setIfInBounds_toArray, List.set_cons_zero, List.set_cons_succ]
        refine wpAnyH_take (i := 7) (oi := ⟨some 77, _, _, _, _, _⟩) (v := ?_) rfl (by kernel_rfl) (by kernel_rfl) (by kernel_rfl) (fun _ _ _ h => h) (Or.inl ⟨by rfl, ?_⟩) (by assumption) ?_
        rotate_left
        · intro wq hSw; go_simp; (try with_reducible rfl)
        try simp only [Act.put, List.setIfInBounds_toArray, List.set_cons_zero, List.set_cons_succ]
        refine wpAnyH_ready (rs := [8]) (by kernel_rfl) (by simp) ?_
        refine AllReadyH.cons (o := ⟨some 78, _, _, _, _, _⟩) rfl (fun K hK => ?_) AllReadyH.nil
        go_simp
        (try rw [e2]); (try rw [e1]); (with_reducible refine (AC.out _).mono ?_); rintro e w7 ⟨rfl, hb⟩
        refine hK.out _ _ (hHeld0.next hb) (fun hHeld1 => ?_)
        clear hK K
        try clear hb
        try simp only [Act.put, List.setIfInBounds_toArray, List.set_cons_zero, List.set_cons_succ]
        refine wpAnyH_take (i := 9) (oi := ⟨some 69, _, _, _, _, _⟩) (v := ?_) rfl (by kernel_rfl) (by kernel_rfl) (by kernel_rfl) (fun _ _ _ h => h) (Or.inl ⟨by rfl, ?_⟩) (by assumption) ?_
        rotate_left
        · intro wq hSw; go_simp; (try with_reducible rfl)
        try simp only [Act.put, List.setIfInBounds_toArray, List.set_cons_zero, List.set_cons_succ]
        refine wpAnyH_take (i := 10) (oi := ⟨some 79, _, _, _, _, _⟩) (v := ?_) rfl (by kernel_rfl) (by kernel_rfl) (by kernel_rfl) (fun _ _ _ h => h) (Or.inl ⟨by rfl, ?_⟩) (by assumption) ?_
        rotate_left
        · intro wq hSw; go_simp; (try with_reducible rfl)
        try simp only [Act.put, List.setIfInBounds_toArray, List.set_cons_zero, List.set_cons_succ]
        refine wpAnyH_take (i := 11) (oi := ⟨some 80, _, _, _, _, _⟩) (v := ?_) rfl (by kernel_rfl) (by kernel_rfl) (by kernel_rfl) (fun _ _ _ h => h) (Or.inl ⟨by rfl, ?_⟩) (by assumption) ?_
        rotate_left
        · intro wq hSw; go_simp; (try with_reducible rfl)
        try simp only [Act.put, List.setIfInBounds_toArray, List.set_cons_zero, List.set_cons_succ]
        refine wpAnyH_take (i := 12) (oi := ⟨some 10, _, _, _, _, _⟩) (v := ?_) rfl (by kernel_rfl) (by kernel_rfl) (by kernel_rfl) (fun _ _ _ h => h) (Or.inl ⟨by rfl, ?_⟩) (by assumption) ?_
        rotate_left
        · intro wq hSw; go_simp; (try with_reducible rfl)
        try simp only [Act.put, List.setIfInBounds_toArray, List.set_cons_zero, List.set_cons_succ]
        refine wpAnyH_take (i := 13) (oi := ⟨some 11, _, _, _, _, _⟩) (v := ?_) rfl (by kernel_rfl) (by kernel_rfl) (by kernel_rfl) (fun _ _ _ h => h) (Or.inl ⟨by rfl, ?_⟩) (by assumption) ?_
        rotate_left
        · intro wq hSw; go_simp; (try with_reducible rfl)
        try simp only [Act.put, List.setIfInBounds_toArray, List.set_cons_zero, List.set_cons_succ]
        refine wpAnyH_done (by kernel_rfl) ?_ _
        have hHeld := hHeld1
        obtain ⟨⟨kz0, kc0, kf0⟩, ⟨kz1, kc1, kf1⟩, ⟨kz2, kc2, kf2⟩, ⟨kz3, kc3, kf3⟩, ⟨kz4, kc4, kf4⟩, ⟨kz5, kc5, kf5⟩, ⟨kz6, kc6, kf6⟩, _⟩ := hHeld.2
        all_goals
          go_wp2_with fail
          go_roundw
          case rel => exact ⟨k + 1, by simp, gk, Lib.hid ⟨hHeld.1, hHeld.2.1, hHeld.2.2.1, hHeld.2.2.2.1, hHeld.2.2.2.2.1, trivial⟩⟩
          case measure => exact index_less gk
      · have i1 : ¬ (k : Int) < (m.length : Int) := by omega
        go_wp2_with fail
        go_ret
        exact ⟨rfl, under HB2.out hB.out.1⟩
  · have e1 : fitA m = 0 ∧ fitN m = 0 ∧ fitD9 m = 0 := by simp [fitA, fitN, fitD9, hE]
    rw [e1.1, e1.2.1, e1.2.2]
    have e2 : fitE m = 180 ∨ fitE m = 4 ∧ (1 : Int) < (m.length : Int) := by
      cases gk : okD m
      · left; simp [fitE, gk]
      · right
        have hne := okD_ne gk
        have := firN_le hne
        by_cases g : firN m < m.length
        · exact ⟨by simp [fitE, gk, g], by omega⟩
        · exact absurd (by simp [fitE, gk, g]) hE
    clear e1 hE H2
    rcases e2 with e2 | ⟨e2, i1⟩
    · rw [e2]
      clear e2
      go_wp2_with fail
      go_ret
      exact ⟨rfl, under HB2.out (hb3.alloc hb3.size _)⟩
    · rw [e2]
      clear e2
      go_wp2_with fail
      go_ret
      exact ⟨rfl, under HB2.out (hb3.alloc hb3.size _)⟩
end Go.Proofs.Ytlhjijigpjfokaa.P9
