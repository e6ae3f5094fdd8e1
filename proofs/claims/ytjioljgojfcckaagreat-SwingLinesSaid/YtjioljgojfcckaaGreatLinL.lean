/-
  Layer 9: the law SwingLines. Conditions: those written at each fact.
-/
import Derived.Maps.RangeWalk
import Derived.Test.YtjioljgojfcckaaGreatSxA
import Derived.Test.YtjioljgojfcckaaGreatSwO
import Derived.Test.YtjioljgojfcckaaGreatDcA
import Derived.Test.YtjioljgojfcckaaGreatLdB
namespace Go.Proofs.YtjioljgojfcckaaGreat.P9
open Go.RowKit Go.Shelf Go.Proofs.YtjioljgojfcckaaGreat.P8

set_option maxRecDepth 100000 in
set_option maxHeartbeats 8000000 in
theorem lawLines_any (a r n d : Int) (l : List Bd) (hl : l.length ≤ 9223372036854775807) (v : Value) (w : World) (h : ReadsD w v l) : Calls Tryz.prog 3 #[lnV a r n d, v] w (Ret w (.bool true)) := by
  have WK := Lib.hid wakes_any
  have OW := Lib.hid (fun W (hb : Below w.heap.size w W) => own_any l hl v W (h.below hb))
  obtain ⟨A, c, rfl, hc, _⟩ := h
  have hml : (l.take 260).length ≤ 260 := by rw [List.length_take]; omega
  generalize l.take 260 = m at *
  go_enter Tryz.func3, Tryz.ntmps3
  go_wp2_with fail
  refine (WK.out _).mono ?_
  rintro e w1 ⟨rfl, hb1⟩
  have hH1 : Keeps w [(w.heap.size, 0, .int .i64 a), (w.heap.size, 1, .int .i64 r), (w.heap.size, 2, .int .i64 n), (w.heap.size, 3, .int .i64 d)] w1 := Keeps.next (W := w.alloc (.cells #[.int .i64 a, .int .i64 r, .int .i64 n, .int .i64 d] 23)) ⟨below_alloc w _, by simp [Cells, go_sem]⟩ hb1
  go_wp2_with fail
  refine (OW.out w1 hH1.1).mono ?_
  rintro e w2 hh
  obtain ⟨hb2, A2, c2, rfl, hc2, hr2⟩ := hh.open
  have hH2 := hH1.next hb2
  have FI := Lib.hid (fit9_any m (by omega) _ w2 hr2)
  have RI := Lib.hid (fun W (hb : Below w2.heap.size w2 W) => P8.refRight_any m (by omega) _ W (hr2.below hb))
  have H2 := Lib.hid hr2
  clear hh hb1 hb2 WK OW hr2 hH1
  go_wp2_with fail
  refine FI.out.mono ?_
  rintro e w3 ⟨rfl, hb3⟩
  have hH3 := hH2.next hb3
  have hHs : Keeps w [(w.heap.size, 0, .int .i64 a), (w.heap.size, 1, .int .i64 r), (w.heap.size, 2, .int .i64 n), (w.heap.size, 3, .int .i64 d), (w3.heap.size, 0, .int .i64 (fitA m)), (w3.heap.size, 1, .int .i64 0), (w3.heap.size, 2, .int .i64 (fitN m)), (w3.heap.size, 3, .int .i64 (fitD9 m))] (w3.alloc (.cells #[.int .i64 (fitA m), .int .i64 0, .int .i64 (fitN m), .int .i64 (fitD9 m)] 23)) := ⟨(hH3.alloc _).1, (hH3.alloc _).2.1, (hH3.alloc _).2.2.1, (hH3.alloc _).2.2.2.1, (hH3.alloc _).2.2.2.2.1, by simp [Cells, go_sem]⟩
  have hb3a := hb3.alloc hb3.size (.cells #[.int .i64 (fitA m), .int .i64 0, .int .i64 (fitN m), .int .i64 (fitD9 m)] 23)
  go_wp2_with fail
  refine (RI.out _ hb3a).mono ?_
  rintro e w5 ⟨rfl, hb5⟩
  have hHeld := hHs.next hb5
  have H5 := Lib.hid (H2.out.below (under hb3a hb5))
  clear hb3a hHs hb5 hb3 hH3 hH2 RI FI H2
  generalize w3.heap.size = g6 at *
  cases gk : okD m
  · have e1 : fitE m = 180 := by simp [fitE, gk]
    have e2 : fitA m = 0 := by simp [fitA, e1]
    have e3 : fitN m = 0 := by simp [fitN, e1]
    have e4 : fitD9 m = 0 := by simp [fitD9, e1]
    have e5 : thrB a r n d m = false := by simp [thrB, gk]
    have TH := Lib.hid (thr_any a r n d m (by omega) _ w5 H5.out)
    rw [e5] at TH
    rw [e2, e3, e4] at hHeld
    rw [e1, e2, e3, e4]
    clear e1 e2 e3 e4 e5
    obtain ⟨⟨kz0, kc0, kf0⟩, ⟨kz1, kc1, kf1⟩, ⟨kz2, kc2, kf2⟩, ⟨kz3, kc3, kf3⟩, ⟨kz4, kc4, kf4⟩, ⟨kz5, kc5, kf5⟩, ⟨kz6, kc6, kf6⟩, ⟨kz7, kc7, kf7⟩, _⟩ := hHeld.2
    go_wp2_with fail
    refine TH.out.mono ?_
    rintro e w6 ⟨rfl, hb6⟩
    go_wp2_with fail
    go_ret
    exact ⟨rfl, under hHeld.1 hb6⟩
  · obtain ⟨hn1, hn2, _⟩ := okD_facts gk
    cases m with
    | nil => exact absurd hn1 (by decide)
    | cons b0 k =>
    obtain ⟨hR, hT⟩ := okD_times gk
    have HD := Lib.hid (fun W (hb : Below w5.heap.size w5 W) => H5.out.below hb)
    have TH := Lib.hid (fun W (hb : Below w5.heap.size w5 W) => thr_any a r n d (b0 :: k) (by omega) _ W (HD.out W hb))
    rw [thr_right gk] at TH
    have RL := Lib.hid (fun W => Go.Proofs.YtjioljgojfcckaaGreat.refRight_any a r n d W)
    have RT := Lib.hid (fun (hL : lineB a r n d = true) W (hb : Below w5.heap.size w5 W) => refThrough_any a r n d hL b0 k (by omega) hR hT _ W (HD.out W hb))
    have SW := Lib.hid (fun W (hb : Below w5.heap.size w5 W) => refSwing_any b0 k (by omega) hR hT _ W (HD.out W hb))
    have RF := Lib.hid (fun W (hb : Below w5.heap.size w5 W) => refFit_any b0 k (by omega) hR hT _ W (HD.out W hb))
    rcases swing_iff hR with ⟨s1, s2, s3⟩ | ⟨s1, s2⟩
    · have e1 : fitE (b0 :: k) = 0 := by simp [fitE, gk, s1]
      have e2 : fitA (b0 :: k) = mid b0 := by rw [fitA, if_pos e1, s2, ← atD_all]; exact (atD_tv b0 k _).2
      have e3 : fitN (b0 :: k) = flatN (allD (b0 :: k)) := by rw [fitN, if_pos e1, s2]
      have e4 : fitD9 (b0 :: k) = flatE (allD (b0 :: k)) := by rw [fitD9, if_pos e1, s2]
      rw [s3] at SW
      rw [e2, e3, e4] at hHeld
      rw [e1, e2, e3, e4]
      clear e1 e2 e3 e4 s1 s2 s3
      generalize flatN (allD (b0 :: k)) = fn at *
      generalize flatE (allD (b0 :: k)) = fd at *
      generalize mid b0 = fa at *
      have HB5 := Lib.hid hHeld.1
      have hK : Keeps w5 [(w.heap.size, 0, .int .i64 a), (w.heap.size, 1, .int .i64 r), (w.heap.size, 2, .int .i64 n), (w.heap.size, 3, .int .i64 d), (g6, 0, .int .i64 fa), (g6, 1, .int .i64 0), (g6, 2, .int .i64 fn), (g6, 3, .int .i64 fd)] w5 := ⟨Below.refl _ _, hHeld.2⟩
      clear hHeld hR hT gk HD H5 hn1 hn2
      generalize goesB a r n d b0.t (b0 :: k) = G at *
      generalize (b0 :: k).length = len at *
      go_upto_region 7 with (fail)
      cases hL : lineB a r n d
      · skip
        rw [hL] at TH RL
        simp only [Bool.false_and] at TH
        clear hL
        refine region_keeps (w0 := w5) (L := [(w.heap.size, 0, .int .i64 a), (w.heap.size, 1, .int .i64 r), (w.heap.size, 2, .int .i64 n), (w.heap.size, 3, .int .i64 d), (g6, 0, .int .i64 fa), (g6, 1, .int .i64 0), (g6, 2, .int .i64 fn), (g6, 3, .int .i64 fd)]) (by kernel_rfl) hK (fun hHeld0 => ?_)
        refine wpAnyH_take (i := 0) (oi := ⟨some 33, _, _, _, _, _⟩) (v := ?_) rfl (by kernel_rfl) (by kernel_rfl) (by kernel_rfl) (fun _ _ _ h => h) (Or.inl ⟨by rfl, ?_⟩) (by assumption) ?_
        rotate_left
        · intro wq hSw; obtain ⟨⟨qz0, qc0, qf0⟩, ⟨qz1, qc1, qf1⟩, ⟨qz2, qc2, qf2⟩, ⟨qz3, qc3, qf3⟩, ⟨qz4, qc4, qf4⟩, ⟨qz5, qc5, qf5⟩, ⟨qz6, qc6, qf6⟩, ⟨qz7, qc7, qf7⟩, _⟩ := hSw.2; go_simp; (try with_reducible rfl)
        try go_frame
        refine wpAnyH_take (i := 1) (oi := ⟨some 34, _, _, _, _, _⟩) (v := ?_) rfl (by kernel_rfl) (by kernel_rfl) (by kernel_rfl) (fun _ _ _ h => h) (Or.inl ⟨by rfl, ?_⟩) (by assumption) ?_
        rotate_left
        · intro wq hSw; go_simp; (try with_reducible rfl)
        try go_frame
        refine wpAnyH_take (i := 3) (oi := ⟨some 36, _, _, _, _, _⟩) (v := ?_) rfl (by kernel_rfl) (by kernel_rfl) (by kernel_rfl) (fun _ _ _ h => h) (Or.inl ⟨by rfl, ?_⟩) (by assumption) ?_
        rotate_left
        · intro wq hSw; obtain ⟨⟨qz0, qc0, qf0⟩, ⟨qz1, qc1, qf1⟩, ⟨qz2, qc2, qf2⟩, ⟨qz3, qc3, qf3⟩, ⟨qz4, qc4, qf4⟩, ⟨qz5, qc5, qf5⟩, ⟨qz6, qc6, qf6⟩, ⟨qz7, qc7, qf7⟩, _⟩ := hSw.2; go_simp; (try with_reducible rfl)
        try go_frame
        refine wpAnyH_ready (rs := [2]) (by kernel_rfl) (by simp) ?_
        refine AllReadyH.cons (o := ⟨some 35, _, _, _, _, _⟩) rfl (fun K hK => ?_) AllReadyH.nil
        go_simp
        (first | ((with_reducible refine Calls.mono (TH.out _ (bel9 (L := [(w.heap.size, 0, .int .i64 a), (w.heap.size, 1, .int .i64 r), (w.heap.size, 2, .int .i64 n), (w.heap.size, 3, .int .i64 d), (g6, 0, .int .i64 fa), (g6, 1, .int .i64 0), (g6, 2, .int .i64 fn), (g6, 3, .int .i64 fd)]) (by assumption))) ?_); rintro e w6 ⟨rfl, hb⟩) | ((with_reducible refine (RL.out _).mono ?_); rintro e w7 ⟨rfl, hb⟩) | ((with_reducible refine Calls.mono (RT.out _ (bel9 (L := [(w.heap.size, 0, .int .i64 a), (w.heap.size, 1, .int .i64 r), (w.heap.size, 2, .int .i64 n), (w.heap.size, 3, .int .i64 d), (g6, 0, .int .i64 fa), (g6, 1, .int .i64 0), (g6, 2, .int .i64 fn), (g6, 3, .int .i64 fd)]) (by assumption))) ?_); rintro e w8 ⟨rfl, hb⟩))
        refine hK.out _ _ (hHeld0.next hb) (fun hHeld1 => ?_)
        clear hK K
        try clear hb
        try go_frame
        refine wpAnyH_ready (rs := [4]) (by kernel_rfl) (by simp) ?_
        refine AllReadyH.cons (o := ⟨some 37, _, _, _, _, _⟩) rfl (fun K hK => ?_) AllReadyH.nil
        go_simp
        (first | ((with_reducible refine Calls.mono (TH.out _ (bel9 (L := [(w.heap.size, 0, .int .i64 a), (w.heap.size, 1, .int .i64 r), (w.heap.size, 2, .int .i64 n), (w.heap.size, 3, .int .i64 d), (g6, 0, .int .i64 fa), (g6, 1, .int .i64 0), (g6, 2, .int .i64 fn), (g6, 3, .int .i64 fd)]) (by assumption))) ?_); rintro e w6 ⟨rfl, hb⟩) | ((with_reducible refine (RL.out _).mono ?_); rintro e w7 ⟨rfl, hb⟩) | ((with_reducible refine Calls.mono (RT.out _ (bel9 (L := [(w.heap.size, 0, .int .i64 a), (w.heap.size, 1, .int .i64 r), (w.heap.size, 2, .int .i64 n), (w.heap.size, 3, .int .i64 d), (g6, 0, .int .i64 fa), (g6, 1, .int .i64 0), (g6, 2, .int .i64 fn), (g6, 3, .int .i64 fd)]) (by assumption))) ?_); rintro e w8 ⟨rfl, hb⟩))
        refine hK.out _ _ (hHeld1.next hb) (fun hHeld2 => ?_)
        clear hK K
        try clear hb
        try go_frame
        refine wpAnyH_take (i := 5) (oi := ⟨some 38, _, _, _, _, _⟩) (v := ?_) rfl (by kernel_rfl) (by kernel_rfl) (by kernel_rfl) (fun _ _ _ h => h) (Or.inl ⟨by rfl, ?_⟩) (by assumption) ?_
        rotate_left
        · intro wq hSw; go_simp; (try with_reducible rfl)
        try go_frame
        refine wpAnyH_take (i := 6) (oi := ⟨some 39, _, _, _, _, _⟩) (v := undef) rfl (by kernel_rfl) (by kernel_rfl) (by kernel_rfl) (fun _ _ _ h => h) (Or.inr ⟨by rfl, rfl⟩) (by assumption) ?_
        try go_frame
        refine wpAnyH_take (i := 7) (oi := ⟨some 40, _, _, _, _, _⟩) (v := undef) rfl (by kernel_rfl) (by kernel_rfl) (by kernel_rfl) (fun _ _ _ h => h) (Or.inr ⟨by rfl, rfl⟩) (by assumption) ?_
        try go_frame
        refine wpAnyH_take (i := 8) (oi := ⟨some 41, _, _, _, _, _⟩) (v := undef) rfl (by kernel_rfl) (by kernel_rfl) (by kernel_rfl) (fun _ _ _ h => h) (Or.inr ⟨by rfl, rfl⟩) (by assumption) ?_
        try go_frame
        refine wpAnyH_take (i := 9) (oi := ⟨some 42, _, _, _, _, _⟩) (v := ?_) rfl (by kernel_rfl) (by kernel_rfl) (by kernel_rfl) (fun _ _ _ h => h) (Or.inl ⟨by rfl, ?_⟩) (by assumption) ?_
        rotate_left
        · intro wq hSw; go_simp; (try with_reducible rfl)
        try go_frame
        refine wpAnyH_take (i := 10) (oi := ⟨some 43, _, _, _, _, _⟩) (v := ?_) rfl (by kernel_rfl) (by kernel_rfl) (by kernel_rfl) (fun _ _ _ h => h) (Or.inl ⟨by rfl, ?_⟩) (by assumption) ?_
        rotate_left
        · intro wq hSw; go_simp; (try with_reducible rfl)
        try go_frame
        refine wpAnyH_done (by kernel_rfl) ?_ _
        have hHeld := hHeld2
        obtain ⟨⟨kz0, kc0, kf0⟩, ⟨kz1, kc1, kf1⟩, ⟨kz2, kc2, kf2⟩, ⟨kz3, kc3, kf3⟩, ⟨kz4, kc4, kf4⟩, ⟨kz5, kc5, kf5⟩, ⟨kz6, kc6, kf6⟩, ⟨kz7, kc7, kf7⟩, _⟩ := hHeld.2
        all_goals
          skip
          have hHeld := hHeld
          go_wp2_with fail
          refine (SW.out _ hHeld.1).mono ?_
          rintro e w10 ⟨rfl, hb10⟩
          replace hHeld := hHeld.next hb10
          clear hb10
          have hX := hHeld
          go_upto_region 11 with (fail)
          refine region_keeps (w0 := w5) (L := [(w.heap.size, 0, .int .i64 a), (w.heap.size, 1, .int .i64 r), (w.heap.size, 2, .int .i64 n), (w.heap.size, 3, .int .i64 d), (g6, 0, .int .i64 fa), (g6, 1, .int .i64 0), (g6, 2, .int .i64 fn), (g6, 3, .int .i64 fd)]) (by kernel_rfl) hHeld (fun hHeld0 => ?_)
          refine wpAnyH_take (i := 0) (oi := ⟨some 54, _, _, _, _, _⟩) (v := ?_) rfl (by kernel_rfl) (by kernel_rfl) (by kernel_rfl) (fun _ _ _ h => h) (Or.inl ⟨by rfl, ?_⟩) (by assumption) ?_
          rotate_left
          · intro wq hSw; go_simp; (try with_reducible rfl)
          try go_frame
          refine wpAnyH_take (i := 1) (oi := ⟨some 55, _, _, _, _, _⟩) (v := ?_) rfl (by kernel_rfl) (by kernel_rfl) (by kernel_rfl) (fun _ _ _ h => h) (Or.inl ⟨by rfl, ?_⟩) (by assumption) ?_
          rotate_left
          · intro wq hSw; go_simp; (try with_reducible rfl)
          try go_frame
          refine wpAnyH_take (i := 2) (oi := ⟨some 56, _, _, _, _, _⟩) (v := ?_) rfl (by kernel_rfl) (by kernel_rfl) (by kernel_rfl) (fun _ _ _ h => h) (Or.inl ⟨by rfl, ?_⟩) (by assumption) ?_
          rotate_left
          · intro wq hSw; go_simp; (try with_reducible rfl)
          try go_frame
          refine wpAnyH_take (i := 3) (oi := ⟨some 57, _, _, _, _, _⟩) (v := ?_) rfl (by kernel_rfl) (by kernel_rfl) (by kernel_rfl) (fun _ _ _ h => h) (Or.inl ⟨by rfl, ?_⟩) (by assumption) ?_
          rotate_left
          · intro wq hSw; obtain ⟨⟨qz0, qc0, qf0⟩, ⟨qz1, qc1, qf1⟩, ⟨qz2, qc2, qf2⟩, ⟨qz3, qc3, qf3⟩, ⟨qz4, qc4, qf4⟩, ⟨qz5, qc5, qf5⟩, ⟨qz6, qc6, qf6⟩, ⟨qz7, qc7, qf7⟩, _⟩ := hSw.2; go_simp; (try with_reducible rfl)
          try go_frame
          refine wpAnyH_take (i := 4) (oi := ⟨some 58, _, _, _, _, _⟩) (v := ?_) rfl (by kernel_rfl) (by kernel_rfl) (by kernel_rfl) (fun _ _ _ h => h) (Or.inl ⟨by rfl, ?_⟩) (by assumption) ?_
          rotate_left
          · intro wq hSw; go_simp; (try with_reducible rfl)
          try go_frame
          refine wpAnyH_ready (rs := [5]) (by kernel_rfl) (by simp) ?_
          refine AllReadyH.cons (o := ⟨some 59, _, _, _, _, _⟩) rfl (fun K hK => ?_) AllReadyH.nil
          go_simp
          ((with_reducible refine Calls.mono (RF.out _ (bel9 (L := [(w.heap.size, 0, .int .i64 a), (w.heap.size, 1, .int .i64 r), (w.heap.size, 2, .int .i64 n), (w.heap.size, 3, .int .i64 d), (g6, 0, .int .i64 fa), (g6, 1, .int .i64 0), (g6, 2, .int .i64 fn), (g6, 3, .int .i64 fd)]) (by assumption))) ?_); rintro e w9 ⟨rfl, hb⟩)
          refine hK.out _ _ (hHeld0.next hb) (fun hHeld1 => ?_)
          clear hK K
          try clear hb
          try go_frame
          refine wpAnyH_take (i := 6) (oi := ⟨some 60, _, _, _, _, _⟩) (v := ?_) rfl (by kernel_rfl) (by kernel_rfl) (by kernel_rfl) (fun _ _ _ h => h) (Or.inl ⟨by rfl, ?_⟩) (by assumption) ?_
          rotate_left
          · intro wq hSw; go_simp; (try with_reducible rfl)
          try go_frame
          refine wpAnyH_take (i := 7) (oi := ⟨some 61, _, _, _, _, _⟩) (v := ?_) rfl (by kernel_rfl) (by kernel_rfl) (by kernel_rfl) (fun _ _ _ h => h) (Or.inl ⟨by rfl, ?_⟩) (by assumption) ?_
          rotate_left
          · intro wq hSw; go_simp; (try with_reducible rfl)
          try go_frame
          refine wpAnyH_take (i := 8) (oi := ⟨some 4, _, _, _, _, _⟩) (v := ?_) rfl (by kernel_rfl) (by kernel_rfl) (by kernel_rfl) (fun _ _ _ h => h) (Or.inl ⟨by rfl, ?_⟩) (by assumption) ?_
          rotate_left
          · intro wq hSw; go_simp; (try with_reducible rfl)
          try go_frame
          refine wpAnyH_done (by kernel_rfl) ?_ _
          have hHeld := hHeld1
          obtain ⟨⟨kz0, kc0, kf0⟩, ⟨kz1, kc1, kf1⟩, ⟨kz2, kc2, kf2⟩, ⟨kz3, kc3, kf3⟩, ⟨kz4, kc4, kf4⟩, ⟨kz5, kc5, kf5⟩, ⟨kz6, kc6, kf6⟩, ⟨kz7, kc7, kf7⟩, _⟩ := hHeld.2
          all_goals
            go_wp2_with fail
            go_ret
            exact ⟨rfl, under HB5.out hHeld.1⟩
      · skip
        rw [hL] at TH RL
        simp only [Bool.true_and] at TH
        replace RT := Lib.hid (RT.out hL)
        clear hL
        refine region_keeps (w0 := w5) (L := [(w.heap.size, 0, .int .i64 a), (w.heap.size, 1, .int .i64 r), (w.heap.size, 2, .int .i64 n), (w.heap.size, 3, .int .i64 d), (g6, 0, .int .i64 fa), (g6, 1, .int .i64 0), (g6, 2, .int .i64 fn), (g6, 3, .int .i64 fd)]) (by kernel_rfl) hK (fun hHeld0 => ?_)
        refine wpAnyH_take (i := 0) (oi := ⟨some 33, _, _, _, _, _⟩) (v := ?_) rfl (by kernel_rfl) (by kernel_rfl) (by kernel_rfl) (fun _ _ _ h => h) (Or.inl ⟨by rfl, ?_⟩) (by assumption) ?_
        rotate_left
        · intro wq hSw; obtain ⟨⟨qz0, qc0, qf0⟩, ⟨qz1, qc1, qf1⟩, ⟨qz2, qc2, qf2⟩, ⟨qz3, qc3, qf3⟩, ⟨qz4, qc4, qf4⟩, ⟨qz5, qc5, qf5⟩, ⟨qz6, qc6, qf6⟩, ⟨qz7, qc7, qf7⟩, _⟩ := hSw.2; go_simp; (try with_reducible rfl)
        try go_frame
        refine wpAnyH_take (i := 1) (oi := ⟨some 34, _, _, _, _, _⟩) (v := ?_) rfl (by kernel_rfl) (by kernel_rfl) (by kernel_rfl) (fun _ _ _ h => h) (Or.inl ⟨by rfl, ?_⟩) (by assumption) ?_
        rotate_left
        · intro wq hSw; go_simp; (try with_reducible rfl)
        try go_frame
        refine wpAnyH_take (i := 3) (oi := ⟨some 36, _, _, _, _, _⟩) (v := ?_) rfl (by kernel_rfl) (by kernel_rfl) (by kernel_rfl) (fun _ _ _ h => h) (Or.inl ⟨by rfl, ?_⟩) (by assumption) ?_
        rotate_left
        · intro wq hSw; obtain ⟨⟨qz0, qc0, qf0⟩, ⟨qz1, qc1, qf1⟩, ⟨qz2, qc2, qf2⟩, ⟨qz3, qc3, qf3⟩, ⟨qz4, qc4, qf4⟩, ⟨qz5, qc5, qf5⟩, ⟨qz6, qc6, qf6⟩, ⟨qz7, qc7, qf7⟩, _⟩ := hSw.2; go_simp; (try with_reducible rfl)
        try go_frame
        refine wpAnyH_ready (rs := [2]) (by kernel_rfl) (by simp) ?_
        refine AllReadyH.cons (o := ⟨some 35, _, _, _, _, _⟩) rfl (fun K hK => ?_) AllReadyH.nil
        go_simp
        (first | ((with_reducible refine Calls.mono (TH.out _ (bel9 (L := [(w.heap.size, 0, .int .i64 a), (w.heap.size, 1, .int .i64 r), (w.heap.size, 2, .int .i64 n), (w.heap.size, 3, .int .i64 d), (g6, 0, .int .i64 fa), (g6, 1, .int .i64 0), (g6, 2, .int .i64 fn), (g6, 3, .int .i64 fd)]) (by assumption))) ?_); rintro e w6 ⟨rfl, hb⟩) | ((with_reducible refine (RL.out _).mono ?_); rintro e w7 ⟨rfl, hb⟩) | ((with_reducible refine Calls.mono (RT.out _ (bel9 (L := [(w.heap.size, 0, .int .i64 a), (w.heap.size, 1, .int .i64 r), (w.heap.size, 2, .int .i64 n), (w.heap.size, 3, .int .i64 d), (g6, 0, .int .i64 fa), (g6, 1, .int .i64 0), (g6, 2, .int .i64 fn), (g6, 3, .int .i64 fd)]) (by assumption))) ?_); rintro e w8 ⟨rfl, hb⟩))
        refine hK.out _ _ (hHeld0.next hb) (fun hHeld1 => ?_)
        clear hK K
        try clear hb
        try go_frame
        refine wpAnyH_ready (rs := [4]) (by kernel_rfl) (by simp) ?_
        refine AllReadyH.cons (o := ⟨some 37, _, _, _, _, _⟩) rfl (fun K hK => ?_) AllReadyH.nil
        go_simp
        (first | ((with_reducible refine Calls.mono (TH.out _ (bel9 (L := [(w.heap.size, 0, .int .i64 a), (w.heap.size, 1, .int .i64 r), (w.heap.size, 2, .int .i64 n), (w.heap.size, 3, .int .i64 d), (g6, 0, .int .i64 fa), (g6, 1, .int .i64 0), (g6, 2, .int .i64 fn), (g6, 3, .int .i64 fd)]) (by assumption))) ?_); rintro e w6 ⟨rfl, hb⟩) | ((with_reducible refine (RL.out _).mono ?_); rintro e w7 ⟨rfl, hb⟩) | ((with_reducible refine Calls.mono (RT.out _ (bel9 (L := [(w.heap.size, 0, .int .i64 a), (w.heap.size, 1, .int .i64 r), (w.heap.size, 2, .int .i64 n), (w.heap.size, 3, .int .i64 d), (g6, 0, .int .i64 fa), (g6, 1, .int .i64 0), (g6, 2, .int .i64 fn), (g6, 3, .int .i64 fd)]) (by assumption))) ?_); rintro e w8 ⟨rfl, hb⟩))
        refine hK.out _ _ (hHeld1.next hb) (fun hHeld2 => ?_)
        clear hK K
        try clear hb
        try go_frame
        refine wpAnyH_take (i := 5) (oi := ⟨some 38, _, _, _, _, _⟩) (v := ?_) rfl (by kernel_rfl) (by kernel_rfl) (by kernel_rfl) (fun _ _ _ h => h) (Or.inl ⟨by rfl, ?_⟩) (by assumption) ?_
        rotate_left
        · intro wq hSw; go_simp; (try with_reducible rfl)
        try go_frame
        refine wpAnyH_take (i := 6) (oi := ⟨some 39, _, _, _, _, _⟩) (v := ?_) rfl (by kernel_rfl) (by kernel_rfl) (by kernel_rfl) (fun _ _ _ h => h) (Or.inl ⟨by rfl, ?_⟩) (by assumption) ?_
        rotate_left
        · intro wq hSw; obtain ⟨⟨qz0, qc0, qf0⟩, ⟨qz1, qc1, qf1⟩, ⟨qz2, qc2, qf2⟩, ⟨qz3, qc3, qf3⟩, ⟨qz4, qc4, qf4⟩, ⟨qz5, qc5, qf5⟩, ⟨qz6, qc6, qf6⟩, ⟨qz7, qc7, qf7⟩, _⟩ := hSw.2; go_simp; (try with_reducible rfl)
        try go_frame
        refine wpAnyH_take (i := 7) (oi := ⟨some 40, _, _, _, _, _⟩) (v := ?_) rfl (by kernel_rfl) (by kernel_rfl) (by kernel_rfl) (fun _ _ _ h => h) (Or.inl ⟨by rfl, ?_⟩) (by assumption) ?_
        rotate_left
        · intro wq hSw; go_simp; (try with_reducible rfl)
        try go_frame
        refine wpAnyH_ready (rs := [8]) (by kernel_rfl) (by simp) ?_
        refine AllReadyH.cons (o := ⟨some 41, _, _, _, _, _⟩) rfl (fun K hK => ?_) AllReadyH.nil
        go_simp
        (first | ((with_reducible refine Calls.mono (TH.out _ (bel9 (L := [(w.heap.size, 0, .int .i64 a), (w.heap.size, 1, .int .i64 r), (w.heap.size, 2, .int .i64 n), (w.heap.size, 3, .int .i64 d), (g6, 0, .int .i64 fa), (g6, 1, .int .i64 0), (g6, 2, .int .i64 fn), (g6, 3, .int .i64 fd)]) (by assumption))) ?_); rintro e w6 ⟨rfl, hb⟩) | ((with_reducible refine (RL.out _).mono ?_); rintro e w7 ⟨rfl, hb⟩) | ((with_reducible refine Calls.mono (RT.out _ (bel9 (L := [(w.heap.size, 0, .int .i64 a), (w.heap.size, 1, .int .i64 r), (w.heap.size, 2, .int .i64 n), (w.heap.size, 3, .int .i64 d), (g6, 0, .int .i64 fa), (g6, 1, .int .i64 0), (g6, 2, .int .i64 fn), (g6, 3, .int .i64 fd)]) (by assumption))) ?_); rintro e w8 ⟨rfl, hb⟩))
        refine hK.out _ _ (hHeld2.next hb) (fun hHeld3 => ?_)
        clear hK K
        try clear hb
        try go_frame
        refine wpAnyH_take (i := 9) (oi := ⟨some 42, _, _, _, _, _⟩) (v := ?_) rfl (by kernel_rfl) (by kernel_rfl) (by kernel_rfl) (fun _ _ _ h => h) (Or.inl ⟨by rfl, ?_⟩) (by assumption) ?_
        rotate_left
        · intro wq hSw; go_simp; (try with_reducible rfl)
        try go_frame
        refine wpAnyH_take (i := 10) (oi := ⟨some 43, _, _, _, _, _⟩) (v := ?_) rfl (by kernel_rfl) (by kernel_rfl) (by kernel_rfl) (fun _ _ _ h => h) (Or.inl ⟨by rfl, ?_⟩) (by assumption) ?_
        rotate_left
        · intro wq hSw; go_simp; (try with_reducible rfl)
        try go_frame
        refine wpAnyH_done (by kernel_rfl) ?_ _
        have hHeld := hHeld3
        obtain ⟨⟨kz0, kc0, kf0⟩, ⟨kz1, kc1, kf1⟩, ⟨kz2, kc2, kf2⟩, ⟨kz3, kc3, kf3⟩, ⟨kz4, kc4, kf4⟩, ⟨kz5, kc5, kf5⟩, ⟨kz6, kc6, kf6⟩, ⟨kz7, kc7, kf7⟩, _⟩ := hHeld.2
        all_goals
          skip
          have hHeld := hHeld
          go_wp2_with fail
          refine (SW.out _ hHeld.1).mono ?_
          rintro e w10 ⟨rfl, hb10⟩
          replace hHeld := hHeld.next hb10
          clear hb10
          have hX := hHeld
          go_upto_region 11 with (fail)
          refine region_keeps (w0 := w5) (L := [(w.heap.size, 0, .int .i64 a), (w.heap.size, 1, .int .i64 r), (w.heap.size, 2, .int .i64 n), (w.heap.size, 3, .int .i64 d), (g6, 0, .int .i64 fa), (g6, 1, .int .i64 0), (g6, 2, .int .i64 fn), (g6, 3, .int .i64 fd)]) (by kernel_rfl) hHeld (fun hHeld0 => ?_)
          refine wpAnyH_take (i := 0) (oi := ⟨some 54, _, _, _, _, _⟩) (v := ?_) rfl (by kernel_rfl) (by kernel_rfl) (by kernel_rfl) (fun _ _ _ h => h) (Or.inl ⟨by rfl, ?_⟩) (by assumption) ?_
          rotate_left
          · intro wq hSw; go_simp; (try with_reducible rfl)
          try go_frame
          refine wpAnyH_take (i := 1) (oi := ⟨some 55, _, _, _, _, _⟩) (v := ?_) rfl (by kernel_rfl) (by kernel_rfl) (by kernel_rfl) (fun _ _ _ h => h) (Or.inl ⟨by rfl, ?_⟩) (by assumption) ?_
          rotate_left
          · intro wq hSw; go_simp; (try with_reducible rfl)
          try go_frame
          refine wpAnyH_take (i := 2) (oi := ⟨some 56, _, _, _, _, _⟩) (v := ?_) rfl (by kernel_rfl) (by kernel_rfl) (by kernel_rfl) (fun _ _ _ h => h) (Or.inl ⟨by rfl, ?_⟩) (by assumption) ?_
          rotate_left
          · intro wq hSw; go_simp; (try with_reducible rfl)
          try go_frame
          refine wpAnyH_take (i := 3) (oi := ⟨some 57, _, _, _, _, _⟩) (v := ?_) rfl (by kernel_rfl) (by kernel_rfl) (by kernel_rfl) (fun _ _ _ h => h) (Or.inl ⟨by rfl, ?_⟩) (by assumption) ?_
          rotate_left
          · intro wq hSw; obtain ⟨⟨qz0, qc0, qf0⟩, ⟨qz1, qc1, qf1⟩, ⟨qz2, qc2, qf2⟩, ⟨qz3, qc3, qf3⟩, ⟨qz4, qc4, qf4⟩, ⟨qz5, qc5, qf5⟩, ⟨qz6, qc6, qf6⟩, ⟨qz7, qc7, qf7⟩, _⟩ := hSw.2; go_simp; (try with_reducible rfl)
          try go_frame
          refine wpAnyH_take (i := 4) (oi := ⟨some 58, _, _, _, _, _⟩) (v := ?_) rfl (by kernel_rfl) (by kernel_rfl) (by kernel_rfl) (fun _ _ _ h => h) (Or.inl ⟨by rfl, ?_⟩) (by assumption) ?_
          rotate_left
          · intro wq hSw; go_simp; (try with_reducible rfl)
          try go_frame
          refine wpAnyH_ready (rs := [5]) (by kernel_rfl) (by simp) ?_
          refine AllReadyH.cons (o := ⟨some 59, _, _, _, _, _⟩) rfl (fun K hK => ?_) AllReadyH.nil
          go_simp
          ((with_reducible refine Calls.mono (RF.out _ (bel9 (L := [(w.heap.size, 0, .int .i64 a), (w.heap.size, 1, .int .i64 r), (w.heap.size, 2, .int .i64 n), (w.heap.size, 3, .int .i64 d), (g6, 0, .int .i64 fa), (g6, 1, .int .i64 0), (g6, 2, .int .i64 fn), (g6, 3, .int .i64 fd)]) (by assumption))) ?_); rintro e w9 ⟨rfl, hb⟩)
          refine hK.out _ _ (hHeld0.next hb) (fun hHeld1 => ?_)
          clear hK K
          try clear hb
          try go_frame
          refine wpAnyH_take (i := 6) (oi := ⟨some 60, _, _, _, _, _⟩) (v := ?_) rfl (by kernel_rfl) (by kernel_rfl) (by kernel_rfl) (fun _ _ _ h => h) (Or.inl ⟨by rfl, ?_⟩) (by assumption) ?_
          rotate_left
          · intro wq hSw; go_simp; (try with_reducible rfl)
          try go_frame
          refine wpAnyH_take (i := 7) (oi := ⟨some 61, _, _, _, _, _⟩) (v := ?_) rfl (by kernel_rfl) (by kernel_rfl) (by kernel_rfl) (fun _ _ _ h => h) (Or.inl ⟨by rfl, ?_⟩) (by assumption) ?_
          rotate_left
          · intro wq hSw; go_simp; (try with_reducible rfl)
          try go_frame
          refine wpAnyH_take (i := 8) (oi := ⟨some 4, _, _, _, _, _⟩) (v := ?_) rfl (by kernel_rfl) (by kernel_rfl) (by kernel_rfl) (fun _ _ _ h => h) (Or.inl ⟨by rfl, ?_⟩) (by assumption) ?_
          rotate_left
          · intro wq hSw; go_simp; (try with_reducible rfl)
          try go_frame
          refine wpAnyH_done (by kernel_rfl) ?_ _
          have hHeld := hHeld1
          obtain ⟨⟨kz0, kc0, kf0⟩, ⟨kz1, kc1, kf1⟩, ⟨kz2, kc2, kf2⟩, ⟨kz3, kc3, kf3⟩, ⟨kz4, kc4, kf4⟩, ⟨kz5, kc5, kf5⟩, ⟨kz6, kc6, kf6⟩, ⟨kz7, kc7, kf7⟩, _⟩ := hHeld.2
          all_goals
            go_wp2_with fail
            go_ret
            exact ⟨rfl, under HB5.out hHeld.1⟩
    · have e1 : fitE (b0 :: k) = 4 := by simp [fitE, gk]; exact s1
      have e2 : fitA (b0 :: k) = 0 := by simp [fitA, e1]
      have e3 : fitN (b0 :: k) = 0 := by simp [fitN, e1]
      have e4 : fitD9 (b0 :: k) = 0 := by simp [fitD9, e1]
      rw [s2] at SW
      rw [e2, e3, e4] at hHeld
      rw [e1, e2, e3, e4]
      clear e1 e2 e3 e4 s1 s2 RF
      have HB5 := Lib.hid hHeld.1
      have hK : Keeps w5 [(w.heap.size, 0, .int .i64 a), (w.heap.size, 1, .int .i64 r), (w.heap.size, 2, .int .i64 n), (w.heap.size, 3, .int .i64 d), (g6, 0, .int .i64 0), (g6, 1, .int .i64 0), (g6, 2, .int .i64 0), (g6, 3, .int .i64 0)] w5 := ⟨Below.refl _ _, hHeld.2⟩
      clear hHeld hR hT gk HD H5 hn1 hn2
      generalize goesB a r n d b0.t (b0 :: k) = G at *
      generalize (b0 :: k).length = len at *
      go_upto_region 7 with (fail)
      cases hL : lineB a r n d
      · skip
        rw [hL] at TH RL
        simp only [Bool.false_and] at TH
        clear hL
        refine region_keeps (w0 := w5) (L := [(w.heap.size, 0, .int .i64 a), (w.heap.size, 1, .int .i64 r), (w.heap.size, 2, .int .i64 n), (w.heap.size, 3, .int .i64 d), (g6, 0, .int .i64 0), (g6, 1, .int .i64 0), (g6, 2, .int .i64 0), (g6, 3, .int .i64 0)]) (by kernel_rfl) hK (fun hHeld0 => ?_)
        refine wpAnyH_take (i := 0) (oi := ⟨some 33, _, _, _, _, _⟩) (v := ?_) rfl (by kernel_rfl) (by kernel_rfl) (by kernel_rfl) (fun _ _ _ h => h) (Or.inl ⟨by rfl, ?_⟩) (by assumption) ?_
        rotate_left
        · intro wq hSw; obtain ⟨⟨qz0, qc0, qf0⟩, ⟨qz1, qc1, qf1⟩, ⟨qz2, qc2, qf2⟩, ⟨qz3, qc3, qf3⟩, ⟨qz4, qc4, qf4⟩, ⟨qz5, qc5, qf5⟩, ⟨qz6, qc6, qf6⟩, ⟨qz7, qc7, qf7⟩, _⟩ := hSw.2; go_simp; (try with_reducible rfl)
        try go_frame
        refine wpAnyH_take (i := 1) (oi := ⟨some 34, _, _, _, _, _⟩) (v := ?_) rfl (by kernel_rfl) (by kernel_rfl) (by kernel_rfl) (fun _ _ _ h => h) (Or.inl ⟨by rfl, ?_⟩) (by assumption) ?_
        rotate_left
        · intro wq hSw; go_simp; (try with_reducible rfl)
        try go_frame
        refine wpAnyH_take (i := 3) (oi := ⟨some 36, _, _, _, _, _⟩) (v := ?_) rfl (by kernel_rfl) (by kernel_rfl) (by kernel_rfl) (fun _ _ _ h => h) (Or.inl ⟨by rfl, ?_⟩) (by assumption) ?_
        rotate_left
        · intro wq hSw; obtain ⟨⟨qz0, qc0, qf0⟩, ⟨qz1, qc1, qf1⟩, ⟨qz2, qc2, qf2⟩, ⟨qz3, qc3, qf3⟩, ⟨qz4, qc4, qf4⟩, ⟨qz5, qc5, qf5⟩, ⟨qz6, qc6, qf6⟩, ⟨qz7, qc7, qf7⟩, _⟩ := hSw.2; go_simp; (try with_reducible rfl)
        try go_frame
        refine wpAnyH_ready (rs := [2]) (by kernel_rfl) (by simp) ?_
        refine AllReadyH.cons (o := ⟨some 35, _, _, _, _, _⟩) rfl (fun K hK => ?_) AllReadyH.nil
        go_simp
        (first | ((with_reducible refine Calls.mono (TH.out _ (bel9 (L := [(w.heap.size, 0, .int .i64 a), (w.heap.size, 1, .int .i64 r), (w.heap.size, 2, .int .i64 n), (w.heap.size, 3, .int .i64 d), (g6, 0, .int .i64 0), (g6, 1, .int .i64 0), (g6, 2, .int .i64 0), (g6, 3, .int .i64 0)]) (by assumption))) ?_); rintro e w6 ⟨rfl, hb⟩) | ((with_reducible refine (RL.out _).mono ?_); rintro e w7 ⟨rfl, hb⟩) | ((with_reducible refine Calls.mono (RT.out _ (bel9 (L := [(w.heap.size, 0, .int .i64 a), (w.heap.size, 1, .int .i64 r), (w.heap.size, 2, .int .i64 n), (w.heap.size, 3, .int .i64 d), (g6, 0, .int .i64 0), (g6, 1, .int .i64 0), (g6, 2, .int .i64 0), (g6, 3, .int .i64 0)]) (by assumption))) ?_); rintro e w8 ⟨rfl, hb⟩))
        refine hK.out _ _ (hHeld0.next hb) (fun hHeld1 => ?_)
        clear hK K
        try clear hb
        try go_frame
        refine wpAnyH_ready (rs := [4]) (by kernel_rfl) (by simp) ?_
        refine AllReadyH.cons (o := ⟨some 37, _, _, _, _, _⟩) rfl (fun K hK => ?_) AllReadyH.nil
        go_simp
        (first | ((with_reducible refine Calls.mono (TH.out _ (bel9 (L := [(w.heap.size, 0, .int .i64 a), (w.heap.size, 1, .int .i64 r), (w.heap.size, 2, .int .i64 n), (w.heap.size, 3, .int .i64 d), (g6, 0, .int .i64 0), (g6, 1, .int .i64 0), (g6, 2, .int .i64 0), (g6, 3, .int .i64 0)]) (by assumption))) ?_); rintro e w6 ⟨rfl, hb⟩) | ((with_reducible refine (RL.out _).mono ?_); rintro e w7 ⟨rfl, hb⟩) | ((with_reducible refine Calls.mono (RT.out _ (bel9 (L := [(w.heap.size, 0, .int .i64 a), (w.heap.size, 1, .int .i64 r), (w.heap.size, 2, .int .i64 n), (w.heap.size, 3, .int .i64 d), (g6, 0, .int .i64 0), (g6, 1, .int .i64 0), (g6, 2, .int .i64 0), (g6, 3, .int .i64 0)]) (by assumption))) ?_); rintro e w8 ⟨rfl, hb⟩))
        refine hK.out _ _ (hHeld1.next hb) (fun hHeld2 => ?_)
        clear hK K
        try clear hb
        try go_frame
        refine wpAnyH_take (i := 5) (oi := ⟨some 38, _, _, _, _, _⟩) (v := ?_) rfl (by kernel_rfl) (by kernel_rfl) (by kernel_rfl) (fun _ _ _ h => h) (Or.inl ⟨by rfl, ?_⟩) (by assumption) ?_
        rotate_left
        · intro wq hSw; go_simp; (try with_reducible rfl)
        try go_frame
        refine wpAnyH_take (i := 6) (oi := ⟨some 39, _, _, _, _, _⟩) (v := undef) rfl (by kernel_rfl) (by kernel_rfl) (by kernel_rfl) (fun _ _ _ h => h) (Or.inr ⟨by rfl, rfl⟩) (by assumption) ?_
        try go_frame
        refine wpAnyH_take (i := 7) (oi := ⟨some 40, _, _, _, _, _⟩) (v := undef) rfl (by kernel_rfl) (by kernel_rfl) (by kernel_rfl) (fun _ _ _ h => h) (Or.inr ⟨by rfl, rfl⟩) (by assumption) ?_
        try go_frame
        refine wpAnyH_take (i := 8) (oi := ⟨some 41, _, _, _, _, _⟩) (v := undef) rfl (by kernel_rfl) (by kernel_rfl) (by kernel_rfl) (fun _ _ _ h => h) (Or.inr ⟨by rfl, rfl⟩) (by assumption) ?_
        try go_frame
        refine wpAnyH_take (i := 9) (oi := ⟨some 42, _, _, _, _, _⟩) (v := ?_) rfl (by kernel_rfl) (by kernel_rfl) (by kernel_rfl) (fun _ _ _ h => h) (Or.inl ⟨by rfl, ?_⟩) (by assumption) ?_
        rotate_left
        · intro wq hSw; go_simp; (try with_reducible rfl)
        try go_frame
        refine wpAnyH_take (i := 10) (oi := ⟨some 43, _, _, _, _, _⟩) (v := ?_) rfl (by kernel_rfl) (by kernel_rfl) (by kernel_rfl) (fun _ _ _ h => h) (Or.inl ⟨by rfl, ?_⟩) (by assumption) ?_
        rotate_left
        · intro wq hSw; go_simp; (try with_reducible rfl)
        try go_frame
        refine wpAnyH_done (by kernel_rfl) ?_ _
        have hHeld := hHeld2
        obtain ⟨⟨kz0, kc0, kf0⟩, ⟨kz1, kc1, kf1⟩, ⟨kz2, kc2, kf2⟩, ⟨kz3, kc3, kf3⟩, ⟨kz4, kc4, kf4⟩, ⟨kz5, kc5, kf5⟩, ⟨kz6, kc6, kf6⟩, ⟨kz7, kc7, kf7⟩, _⟩ := hHeld.2
        all_goals
          skip
          have hHeld := hHeld
          go_wp2_with fail
          refine (SW.out _ hHeld.1).mono ?_
          rintro e w10 ⟨rfl, hb10⟩
          replace hHeld := hHeld.next hb10
          clear hb10
          have hX := hHeld
          obtain ⟨⟨jz0, jc0, jf0⟩, ⟨jz1, jc1, jf1⟩, ⟨jz2, jc2, jf2⟩, ⟨jz3, jc3, jf3⟩, ⟨jz4, jc4, jf4⟩, ⟨jz5, jc5, jf5⟩, ⟨jz6, jc6, jf6⟩, ⟨jz7, jc7, jf7⟩, _⟩ := hX.2
          go_wp2_with fail
          go_ret
          exact ⟨rfl, under HB5.out hX.1⟩
      · skip
        rw [hL] at TH RL
        simp only [Bool.true_and] at TH
        replace RT := Lib.hid (RT.out hL)
        clear hL
        refine region_keeps (w0 := w5) (L := [(w.heap.size, 0, .int .i64 a), (w.heap.size, 1, .int .i64 r), (w.heap.size, 2, .int .i64 n), (w.heap.size, 3, .int .i64 d), (g6, 0, .int .i64 0), (g6, 1, .int .i64 0), (g6, 2, .int .i64 0), (g6, 3, .int .i64 0)]) (by kernel_rfl) hK (fun hHeld0 => ?_)
        refine wpAnyH_take (i := 0) (oi := ⟨some 33, _, _, _, _, _⟩) (v := ?_) rfl (by kernel_rfl) (by kernel_rfl) (by kernel_rfl) (fun _ _ _ h => h) (Or.inl ⟨by rfl, ?_⟩) (by assumption) ?_
        rotate_left
        · intro wq hSw; obtain ⟨⟨qz0, qc0, qf0⟩, ⟨qz1, qc1, qf1⟩, ⟨qz2, qc2, qf2⟩, ⟨qz3, qc3, qf3⟩, ⟨qz4, qc4, qf4⟩, ⟨qz5, qc5, qf5⟩, ⟨qz6, qc6, qf6⟩, ⟨qz7, qc7, qf7⟩, _⟩ := hSw.2; go_simp; (try with_reducible rfl)
        try go_frame
        refine wpAnyH_take (i := 1) (oi := ⟨some 34, _, _, _, _, _⟩) (v := ?_) rfl (by kernel_rfl) (by kernel_rfl) (by kernel_rfl) (fun _ _ _ h => h) (Or.inl ⟨by rfl, ?_⟩) (by assumption) ?_
        rotate_left
        · intro wq hSw; go_simp; (try with_reducible rfl)
        try go_frame
        refine wpAnyH_take (i := 3) (oi := ⟨some 36, _, _, _, _, _⟩) (v := ?_) rfl (by kernel_rfl) (by kernel_rfl) (by kernel_rfl) (fun _ _ _ h => h) (Or.inl ⟨by rfl, ?_⟩) (by assumption) ?_
        rotate_left
        · intro wq hSw; obtain ⟨⟨qz0, qc0, qf0⟩, ⟨qz1, qc1, qf1⟩, ⟨qz2, qc2, qf2⟩, ⟨qz3, qc3, qf3⟩, ⟨qz4, qc4, qf4⟩, ⟨qz5, qc5, qf5⟩, ⟨qz6, qc6, qf6⟩, ⟨qz7, qc7, qf7⟩, _⟩ := hSw.2; go_simp; (try with_reducible rfl)
        try go_frame
        refine wpAnyH_ready (rs := [2]) (by kernel_rfl) (by simp) ?_
        refine AllReadyH.cons (o := ⟨some 35, _, _, _, _, _⟩) rfl (fun K hK => ?_) AllReadyH.nil
        go_simp
        (first | ((with_reducible refine Calls.mono (TH.out _ (bel9 (L := [(w.heap.size, 0, .int .i64 a), (w.heap.size, 1, .int .i64 r), (w.heap.size, 2, .int .i64 n), (w.heap.size, 3, .int .i64 d), (g6, 0, .int .i64 0), (g6, 1, .int .i64 0), (g6, 2, .int .i64 0), (g6, 3, .int .i64 0)]) (by assumption))) ?_); rintro e w6 ⟨rfl, hb⟩) | ((with_reducible refine (RL.out _).mono ?_); rintro e w7 ⟨rfl, hb⟩) | ((with_reducible refine Calls.mono (RT.out _ (bel9 (L := [(w.heap.size, 0, .int .i64 a), (w.heap.size, 1, .int .i64 r), (w.heap.size, 2, .int .i64 n), (w.heap.size, 3, .int .i64 d), (g6, 0, .int .i64 0), (g6, 1, .int .i64 0), (g6, 2, .int .i64 0), (g6, 3, .int .i64 0)]) (by assumption))) ?_); rintro e w8 ⟨rfl, hb⟩))
        refine hK.out _ _ (hHeld0.next hb) (fun hHeld1 => ?_)
        clear hK K
        try clear hb
        try go_frame
        refine wpAnyH_ready (rs := [4]) (by kernel_rfl) (by simp) ?_
        refine AllReadyH.cons (o := ⟨some 37, _, _, _, _, _⟩) rfl (fun K hK => ?_) AllReadyH.nil
        go_simp
        (first | ((with_reducible refine Calls.mono (TH.out _ (bel9 (L := [(w.heap.size, 0, .int .i64 a), (w.heap.size, 1, .int .i64 r), (w.heap.size, 2, .int .i64 n), (w.heap.size, 3, .int .i64 d), (g6, 0, .int .i64 0), (g6, 1, .int .i64 0), (g6, 2, .int .i64 0), (g6, 3, .int .i64 0)]) (by assumption))) ?_); rintro e w6 ⟨rfl, hb⟩) | ((with_reducible refine (RL.out _).mono ?_); rintro e w7 ⟨rfl, hb⟩) | ((with_reducible refine Calls.mono (RT.out _ (bel9 (L := [(w.heap.size, 0, .int .i64 a), (w.heap.size, 1, .int .i64 r), (w.heap.size, 2, .int .i64 n), (w.heap.size, 3, .int .i64 d), (g6, 0, .int .i64 0), (g6, 1, .int .i64 0), (g6, 2, .int .i64 0), (g6, 3, .int .i64 0)]) (by assumption))) ?_); rintro e w8 ⟨rfl, hb⟩))
        refine hK.out _ _ (hHeld1.next hb) (fun hHeld2 => ?_)
        clear hK K
        try clear hb
        try go_frame
        refine wpAnyH_take (i := 5) (oi := ⟨some 38, _, _, _, _, _⟩) (v := ?_) rfl (by kernel_rfl) (by kernel_rfl) (by kernel_rfl) (fun _ _ _ h => h) (Or.inl ⟨by rfl, ?_⟩) (by assumption) ?_
        rotate_left
        · intro wq hSw; go_simp; (try with_reducible rfl)
        try go_frame
        refine wpAnyH_take (i := 6) (oi := ⟨some 39, _, _, _, _, _⟩) (v := ?_) rfl (by kernel_rfl) (by kernel_rfl) (by kernel_rfl) (fun _ _ _ h => h) (Or.inl ⟨by rfl, ?_⟩) (by assumption) ?_
        rotate_left
        · intro wq hSw; obtain ⟨⟨qz0, qc0, qf0⟩, ⟨qz1, qc1, qf1⟩, ⟨qz2, qc2, qf2⟩, ⟨qz3, qc3, qf3⟩, ⟨qz4, qc4, qf4⟩, ⟨qz5, qc5, qf5⟩, ⟨qz6, qc6, qf6⟩, ⟨qz7, qc7, qf7⟩, _⟩ := hSw.2; go_simp; (try with_reducible rfl)
        try go_frame
        refine wpAnyH_take (i := 7) (oi := ⟨some 40, _, _, _, _, _⟩) (v := ?_) rfl (by kernel_rfl) (by kernel_rfl) (by kernel_rfl) (fun _ _ _ h => h) (Or.inl ⟨by rfl, ?_⟩) (by assumption) ?_
        rotate_left
        · intro wq hSw; go_simp; (try with_reducible rfl)
        try go_frame
        refine wpAnyH_ready (rs := [8]) (by kernel_rfl) (by simp) ?_
        refine AllReadyH.cons (o := ⟨some 41, _, _, _, _, _⟩) rfl (fun K hK => ?_) AllReadyH.nil
        go_simp
        (first | ((with_reducible refine Calls.mono (TH.out _ (bel9 (L := [(w.heap.size, 0, .int .i64 a), (w.heap.size, 1, .int .i64 r), (w.heap.size, 2, .int .i64 n), (w.heap.size, 3, .int .i64 d), (g6, 0, .int .i64 0), (g6, 1, .int .i64 0), (g6, 2, .int .i64 0), (g6, 3, .int .i64 0)]) (by assumption))) ?_); rintro e w6 ⟨rfl, hb⟩) | ((with_reducible refine (RL.out _).mono ?_); rintro e w7 ⟨rfl, hb⟩) | ((with_reducible refine Calls.mono (RT.out _ (bel9 (L := [(w.heap.size, 0, .int .i64 a), (w.heap.size, 1, .int .i64 r), (w.heap.size, 2, .int .i64 n), (w.heap.size, 3, .int .i64 d), (g6, 0, .int .i64 0), (g6, 1, .int .i64 0), (g6, 2, .int .i64 0), (g6, 3, .int .i64 0)]) (by assumption))) ?_); rintro e w8 ⟨rfl, hb⟩))
        refine hK.out _ _ (hHeld2.next hb) (fun hHeld3 => ?_)
        clear hK K
        try clear hb
        try go_frame
        refine wpAnyH_take (i := 9) (oi := ⟨some 42, _, _, _, _, _⟩) (v := ?_) rfl (by kernel_rfl) (by kernel_rfl) (by kernel_rfl) (fun _ _ _ h => h) (Or.inl ⟨by rfl, ?_⟩) (by assumption) ?_
        rotate_left
        · intro wq hSw; go_simp; (try with_reducible rfl)
        try go_frame
        refine wpAnyH_take (i := 10) (oi := ⟨some 43, _, _, _, _, _⟩) (v := ?_) rfl (by kernel_rfl) (by kernel_rfl) (by kernel_rfl) (fun _ _ _ h => h) (Or.inl ⟨by rfl, ?_⟩) (by assumption) ?_
        rotate_left
        · intro wq hSw; go_simp; (try with_reducible rfl)
        try go_frame
        refine wpAnyH_done (by kernel_rfl) ?_ _
        have hHeld := hHeld3
        obtain ⟨⟨kz0, kc0, kf0⟩, ⟨kz1, kc1, kf1⟩, ⟨kz2, kc2, kf2⟩, ⟨kz3, kc3, kf3⟩, ⟨kz4, kc4, kf4⟩, ⟨kz5, kc5, kf5⟩, ⟨kz6, kc6, kf6⟩, ⟨kz7, kc7, kf7⟩, _⟩ := hHeld.2
        all_goals
          skip
          have hHeld := hHeld
          go_wp2_with fail
          refine (SW.out _ hHeld.1).mono ?_
          rintro e w10 ⟨rfl, hb10⟩
          replace hHeld := hHeld.next hb10
          clear hb10
          have hX := hHeld
          obtain ⟨⟨jz0, jc0, jf0⟩, ⟨jz1, jc1, jf1⟩, ⟨jz2, jc2, jf2⟩, ⟨jz3, jc3, jf3⟩, ⟨jz4, jc4, jf4⟩, ⟨jz5, jc5, jf5⟩, ⟨jz6, jc6, jf6⟩, ⟨jz7, jc7, jf7⟩, _⟩ := hX.2
          go_wp2_with fail
          go_ret
          exact ⟨rfl, under HB5.out hX.1⟩
end Go.Proofs.YtjioljgojfcckaaGreat.P9
