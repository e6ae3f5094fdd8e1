/-
  Layer 6, the document's own answers: what may be a term, and what may be asked for. Conditions: the words of a wide number are of 64 bits.
-/
import Derived.Test.YtnacdofidmgfmaaFsI
import Derived.Test.YtnacdofidmgfmaaIs
import Derived.Test.YtnacdofidmgfmaaLdB
namespace Go.Proofs.Ytnacdofidmgfmaa
open Go.RowKit

theorem fits_len {z : Int} (h : Fits z) : (sizeL z.natAbs).length ≤ 130 := sizeL_length 130 _ (by unfold Fits at h; omega)
theorem of_fits (z : Int) (hz : Fits z) (w : World) : Calls Try.prog 34 #[wideV (rhi z) (rlo z)] w (RetZ w z) := by
  have i := rhi_i64 z
  have u := rlo_u64 z
  have h := refOf_any (rhi z) (rlo z) i.1 i.2 u.1 u.2 w
  have e : rhi z * 18446744073709551616 + rlo z = z := by have := val_r hz; unfold val at this; exact this
  rw [e] at h
  exact h
set_option maxRecDepth 100000 in
set_option maxHeartbeats 4000000 in
theorem refTerm_any (z : Int) (hz : Fits z) (w : World) : Calls Try.prog 33 #[wideV (rhi z) (rlo z)] w (Ret w (.bool (termB z))) := by
  have l1 := fits_len hz
  have lp : (sizeL (2 ^ 111)).length ≤ 112 := sizeL_length 112 _ (by omega)
  have e0 : ((2 ^ 111 : Nat) : Int) = 2596148429267413814265248164610048 := by decide +kernel
  have OF := Lib.hid (fun W => of_fits z hz W)
  have PW := fun W => pow_any 111 (by omega) W
  rw [e0] at PW
  have lq : (sizeL ((2596148429267413814265248164610048 : Int)).natAbs).length ≤ 112 := sizeL_length 112 _ (by omega)
  have lr : (sizeL ((-2596148429267413814265248164610048 : Int)).natAbs).length ≤ 112 := sizeL_length 112 _ (by omega)
  have L1 := Lib.hid (fun u u' W k k' => lessZ_any 2596148429267413814265248164610048 z (by omega) (by omega) u u' W k k')
  have L2 := Lib.hid (fun u u' W k k' => lessZ_any z (-2596148429267413814265248164610048) (by omega) (by omega) u u' W k k')
  have NG := Lib.hid (fun u W k => (negZ_any 2596148429267413814265248164610048 u W k).mono fun _ _ h => retZ_of h)
  replace PW := Lib.hid PW
  have e1 : termB z = (!decide (z < -2596148429267413814265248164610048) && !decide (2596148429267413814265248164610048 < z)) := by
    unfold termB
    rw [← decide_not, ← decide_not]
    congr 1 <;> exact decide_eq_decide.2 (by omega)
  rw [e1]
  clear e0 lp lq lr l1 e1 hz
  generalize (2596148429267413814265248164610048 : Int) = M at *
  generalize rhi z = z0 at *
  generalize rlo z = z1 at *
  go_enter Try.func33, Try.ntmps33
  go_wp2_with fail
  refine (OF.out _).mono ?_
  rintro e w1 ⟨b1, A1, n1, c1, rfl, hb, y1⟩
  have hS : Keeps w [] w1 := ⟨under (below_alloc _ _) hb, trivial⟩
  clear hb
  go_wp2_with fail
  refine (PW.out _).mono ?_
  rintro e w2 ⟨b2, A2, n2, c2, rfl, hb, y2⟩
  replace y1 := y1.below hb
  replace hS := hS.next hb
  clear hb
  go_upto_region 2 with fail
  have hA : Keeps w [(w2.heap.size, 0, .bool b1), (w2.heap.size, 1, .slice A1 n1 c1), (w2.heap.size + 1, 0, .bool b2), (w2.heap.size + 1, 1, .slice A2 n2 c2)] ((w2.alloc (.cells #[.bool b1, .slice A1 n1 c1] 68)).alloc (.cells #[.bool b2, .slice A2 n2 c2] 68)) := ⟨((hS.alloc _).alloc _).1, by simp [Cells, go_sem]⟩
  replace y1 := (y1.below (below_alloc w2 (.cells #[.bool b1, .slice A1 n1 c1] 68))).below (below_alloc _ (.cells #[.bool b2, .slice A2 n2 c2] 68))
  replace y2 := (y2.below (below_alloc w2 (.cells #[.bool b1, .slice A1 n1 c1] 68))).below (below_alloc _ (.cells #[.bool b2, .slice A2 n2 c2] 68))
  generalize (w2.alloc (.cells #[.bool b1, .slice A1 n1 c1] 68)).alloc (.cells #[.bool b2, .slice A2 n2 c2] 68) = W0 at *
  replace y1 := Lib.hid y1
  replace y2 := Lib.hid y2
  have hK : Keeps W0 [(w2.heap.size, 0, .bool b1), (w2.heap.size, 1, .slice A1 n1 c1), (w2.heap.size + 1, 0, .bool b2), (w2.heap.size + 1, 1, .slice A2 n2 c2)] W0 := ⟨Below.refl _ _, hA.2⟩
  have hB := Lib.hid hA.1
  clear hA hS
  cases g : decide (M < z)
  · rw [g] at L1
    refine region_keeps (w0 := W0) (L := [(w2.heap.size, 0, .bool b1), (w2.heap.size, 1, .slice A1 n1 c1), (w2.heap.size + 1, 0, .bool b2), (w2.heap.size + 1, 1, .slice A2 n2 c2)]) (by kernel_rfl) hK (fun hHeld0 => ?_)
    refine wpAnyH_take (i := 0) (oi := ⟨some 8, _, _, _, _, _⟩) (v := ?_) rfl (by kernel_rfl) (by kernel_rfl) (by kernel_rfl) (fun _ _ _ h => h) (Or.inl ⟨by rfl, ?_⟩) (by assumption) ?_
    rotate_left
    · intro wq hSw; obtain ⟨⟨qz0, qc0, qf0⟩, ⟨qz1, qc1, qf1⟩, ⟨qz2, qc2, qf2⟩, ⟨qz3, qc3, qf3⟩, _⟩ := hSw.2; go_simp; (try with_reducible rfl)
    try simp only [Act.put, List.setIfInBounds_toArray, List.set_cons_zero, List.set_cons_succ]
    refine wpAnyH_take (i := 1) (oi := ⟨some 9, _, _, _, _, _⟩) (v := ?_) rfl (by kernel_rfl) (by kernel_rfl) (by kernel_rfl) (fun _ _ _ h => h) (Or.inl ⟨by rfl, ?_⟩) (by assumption) ?_
    rotate_left
    · intro wq hSw; obtain ⟨⟨qz0, qc0, qf0⟩, ⟨qz1, qc1, qf1⟩, ⟨qz2, qc2, qf2⟩, ⟨qz3, qc3, qf3⟩, _⟩ := hSw.2; go_simp; (try with_reducible rfl)
    try simp only [Act.put, List.setIfInBounds_toArray, List.set_cons_zero, List.set_cons_succ]
    refine wpAnyH_ready (rs := [2]) (by kernel_rfl) (by simp) ?_
    refine AllReadyH.cons (o := ⟨some 10, _, _, _, _, _⟩) rfl (fun K hK => ?_) AllReadyH.nil
    go_simp
    (with_reducible refine Calls.mono (L1.out _ _ _ (y2.out.below hHeld0.bel) (y1.out.below hHeld0.bel)) ?_); rintro e w4 ⟨rfl, hb⟩
    refine hK.out _ _ (hHeld0.next hb) (fun hHeld1 => ?_)
    clear hK K
    try clear hb
    try simp only [Act.put, List.setIfInBounds_toArray, List.set_cons_zero, List.set_cons_succ]
    refine wpAnyH_take (i := 3) (oi := ⟨some 11, _, _, _, _, _⟩) (v := ?_) rfl (by kernel_rfl) (by kernel_rfl) (by kernel_rfl) (fun _ _ _ h => h) (Or.inl ⟨by rfl, ?_⟩) (by assumption) ?_
    rotate_left
    · intro wq hSw; go_simp; (try with_reducible rfl)
    try simp only [Act.put, List.setIfInBounds_toArray, List.set_cons_zero, List.set_cons_succ]
    refine wpAnyH_take (i := 4) (oi := ⟨some 12, _, _, _, _, _⟩) (v := ?_) rfl (by kernel_rfl) (by kernel_rfl) (by kernel_rfl) (fun _ _ _ h => h) (Or.inl ⟨by rfl, ?_⟩) (by assumption) ?_
    rotate_left
    · intro wq hSw; go_simp; (try with_reducible rfl)
    try simp only [Act.put, List.setIfInBounds_toArray, List.set_cons_zero, List.set_cons_succ]
    refine wpAnyH_take (i := 5) (oi := ⟨some 13, _, _, _, _, _⟩) (v := ?_) rfl (by kernel_rfl) (by kernel_rfl) (by kernel_rfl) (fun _ _ _ h => h) (Or.inl ⟨by rfl, ?_⟩) (by assumption) ?_
    rotate_left
    · intro wq hSw; obtain ⟨⟨qz0, qc0, qf0⟩, ⟨qz1, qc1, qf1⟩, ⟨qz2, qc2, qf2⟩, ⟨qz3, qc3, qf3⟩, _⟩ := hSw.2; go_simp; (try with_reducible rfl)
    try simp only [Act.put, List.setIfInBounds_toArray, List.set_cons_zero, List.set_cons_succ]
    refine wpAnyH_take (i := 6) (oi := ⟨some 14, _, _, _, _, _⟩) (v := ?_) rfl (by kernel_rfl) (by kernel_rfl) (by kernel_rfl) (fun _ _ _ h => h) (Or.inl ⟨by rfl, ?_⟩) (by assumption) ?_
    rotate_left
    · intro wq hSw; obtain ⟨⟨qz0, qc0, qf0⟩, ⟨qz1, qc1, qf1⟩, ⟨qz2, qc2, qf2⟩, ⟨qz3, qc3, qf3⟩, _⟩ := hSw.2; go_simp; (try with_reducible rfl)
    try simp only [Act.put, List.setIfInBounds_toArray, List.set_cons_zero, List.set_cons_succ]
    refine wpAnyH_ready (rs := [7]) (by kernel_rfl) (by simp) ?_
    refine AllReadyH.cons (o := ⟨some 15, _, _, _, _, _⟩) rfl (fun K hK => ?_) AllReadyH.nil
    go_simp
    (with_reducible refine Calls.mono (NG.out _ _ (y2.out.below hHeld1.bel)) ?_); rintro e w5 ⟨b5, A5, n5, c5, rfl, hb, y5⟩
    refine hK.out _ _ (hHeld1.next hb) (fun hHeld2 => ?_)
    clear hK K
    try clear hb
    try simp only [Act.put, List.setIfInBounds_toArray, List.set_cons_zero, List.set_cons_succ]
    refine wpAnyH_ready (rs := [8]) (by kernel_rfl) (by simp) ?_
    refine AllReadyH.cons (o := ⟨some 16, _, _, _, _, _⟩) rfl (fun K hK => ?_) AllReadyH.nil
    go_simp
    (with_reducible refine Calls.mono (L2.out _ _ _ (y1.out.below hHeld2.bel) y5) ?_); rintro e w6 ⟨rfl, hb⟩
    refine hK.out _ _ (hHeld2.next hb) (fun hHeld3 => ?_)
    clear hK K
    try clear hb
    try simp only [Act.put, List.setIfInBounds_toArray, List.set_cons_zero, List.set_cons_succ]
    refine wpAnyH_take (i := 9) (oi := ⟨some 17, _, _, _, _, _⟩) (v := ?_) rfl (by kernel_rfl) (by kernel_rfl) (by kernel_rfl) (fun _ _ _ h => h) (Or.inl ⟨by rfl, ?_⟩) (by assumption) ?_
    rotate_left
    · intro wq hSw; go_simp; (try with_reducible rfl)
    try simp only [Act.put, List.setIfInBounds_toArray, List.set_cons_zero, List.set_cons_succ]
    refine wpAnyH_take (i := 10) (oi := ⟨some 18, _, _, _, _, _⟩) (v := ?_) rfl (by kernel_rfl) (by kernel_rfl) (by kernel_rfl) (fun _ _ _ h => h) (Or.inl ⟨by rfl, ?_⟩) (by assumption) ?_
    rotate_left
    · intro wq hSw; go_simp; (try with_reducible rfl)
    try simp only [Act.put, List.setIfInBounds_toArray, List.set_cons_zero, List.set_cons_succ]
    refine wpAnyH_take (i := 11) (oi := ⟨some 2, _, _, _, _, _⟩) (v := ?_) rfl (by kernel_rfl) (by kernel_rfl) (by kernel_rfl) (fun _ _ _ h => h) (Or.inl ⟨by rfl, ?_⟩) (by assumption) ?_
    rotate_left
    · intro wq hSw; go_simp; (try with_reducible rfl)
    try simp only [Act.put, List.setIfInBounds_toArray, List.set_cons_zero, List.set_cons_succ]
    refine wpAnyH_done (by kernel_rfl) ?_ _
    have hHeld := hHeld3
    obtain ⟨⟨kz0, kc0, kf0⟩, ⟨kz1, kc1, kf1⟩, ⟨kz2, kc2, kf2⟩, ⟨kz3, kc3, kf3⟩, _⟩ := hHeld.2
    all_goals
      go_wp2_with fail
      go_ret
      exact ⟨by rw [g]; simp, under hB.out hHeld.1⟩
  · rw [g] at L1
    refine region_keeps (w0 := W0) (L := [(w2.heap.size, 0, .bool b1), (w2.heap.size, 1, .slice A1 n1 c1), (w2.heap.size + 1, 0, .bool b2), (w2.heap.size + 1, 1, .slice A2 n2 c2)]) (by kernel_rfl) hK (fun hHeld0 => ?_)
    refine wpAnyH_take (i := 0) (oi := ⟨some 8, _, _, _, _, _⟩) (v := ?_) rfl (by kernel_rfl) (by kernel_rfl) (by kernel_rfl) (fun _ _ _ h => h) (Or.inl ⟨by rfl, ?_⟩) (by assumption) ?_
    rotate_left
    · intro wq hSw; obtain ⟨⟨qz0, qc0, qf0⟩, ⟨qz1, qc1, qf1⟩, ⟨qz2, qc2, qf2⟩, ⟨qz3, qc3, qf3⟩, _⟩ := hSw.2; go_simp; (try with_reducible rfl)
    try simp only [Act.put, List.setIfInBounds_toArray, List.set_cons_zero, List.set_cons_succ]
    refine wpAnyH_take (i := 1) (oi := ⟨some 9, _, _, _, _, _⟩) (v := ?_) rfl (by kernel_rfl) (by kernel_rfl) (by kernel_rfl) (fun _ _ _ h => h) (Or.inl ⟨by rfl, ?_⟩) (by assumption) ?_
    rotate_left
    · intro wq hSw; obtain ⟨⟨qz0, qc0, qf0⟩, ⟨qz1, qc1, qf1⟩, ⟨qz2, qc2, qf2⟩, ⟨qz3, qc3, qf3⟩, _⟩ := hSw.2; go_simp; (try with_reducible rfl)
    try simp only [Act.put, List.setIfInBounds_toArray, List.set_cons_zero, List.set_cons_succ]
    refine wpAnyH_ready (rs := [2]) (by kernel_rfl) (by simp) ?_
    refine AllReadyH.cons (o := ⟨some 10, _, _, _, _, _⟩) rfl (fun K hK => ?_) AllReadyH.nil
    go_simp
    (with_reducible refine Calls.mono (L1.out _ _ _ (y2.out.below hHeld0.bel) (y1.out.below hHeld0.bel)) ?_); rintro e w4 ⟨rfl, hb⟩
    refine hK.out _ _ (hHeld0.next hb) (fun hHeld1 => ?_)
    clear hK K
    try clear hb
    try simp only [Act.put, List.setIfInBounds_toArray, List.set_cons_zero, List.set_cons_succ]
    refine wpAnyH_take (i := 3) (oi := ⟨some 11, _, _, _, _, _⟩) (v := ?_) rfl (by kernel_rfl) (by kernel_rfl) (by kernel_rfl) (fun _ _ _ h => h) (Or.inl ⟨by rfl, ?_⟩) (by assumption) ?_
    rotate_left
    · intro wq hSw; go_simp; (try with_reducible rfl)
    try simp only [Act.put, List.setIfInBounds_toArray, List.set_cons_zero, List.set_cons_succ]
    refine wpAnyH_take (i := 4) (oi := ⟨some 12, _, _, _, _, _⟩) (v := ?_) rfl (by kernel_rfl) (by kernel_rfl) (by kernel_rfl) (fun _ _ _ h => h) (Or.inl ⟨by rfl, ?_⟩) (by assumption) ?_
    rotate_left
    · intro wq hSw; go_simp; (try with_reducible rfl)
    try simp only [Act.put, List.setIfInBounds_toArray, List.set_cons_zero, List.set_cons_succ]
    refine wpAnyH_take (i := 5) (oi := ⟨some 13, _, _, _, _, _⟩) (v := undef) rfl (by kernel_rfl) (by kernel_rfl) (by kernel_rfl) (fun _ _ _ h => h) (Or.inr ⟨by rfl, rfl⟩) (by assumption) ?_
    try simp only [Act.put, List.setIfInBounds_toArray, List.set_cons_zero, List.set_cons_succ]
    refine wpAnyH_take (i := 6) (oi := ⟨some 14, _, _, _, _, _⟩) (v := undef) rfl (by kernel_rfl) (by kernel_rfl) (by kernel_rfl) (fun _ _ _ h => h) (Or.inr ⟨by rfl, rfl⟩) (by assumption) ?_
    try simp only [Act.put, List.setIfInBounds_toArray, List.set_cons_zero, List.set_cons_succ]
    refine wpAnyH_take (i := 7) (oi := ⟨some 15, _, _, _, _, _⟩) (v := undef) rfl (by kernel_rfl) (by kernel_rfl) (by kernel_rfl) (fun _ _ _ h => h) (Or.inr ⟨by rfl, rfl⟩) (by assumption) ?_
    try simp only [Act.put, List.setIfInBounds_toArray, List.set_cons_zero, List.set_cons_succ]
    refine wpAnyH_take (i := 8) (oi := ⟨some 16, _, _, _, _, _⟩) (v := undef) rfl (by kernel_rfl) (by kernel_rfl) (by kernel_rfl) (fun _ _ _ h => h) (Or.inr ⟨by rfl, rfl⟩) (by assumption) ?_
    try simp only [Act.put, List.setIfInBounds_toArray, List.set_cons_zero, List.set_cons_succ]
    refine wpAnyH_take (i := 9) (oi := ⟨some 17, _, _, _, _, _⟩) (v := undef) rfl (by kernel_rfl) (by kernel_rfl) (by kernel_rfl) (fun _ _ _ h => h) (Or.inr ⟨by rfl, rfl⟩) (by assumption) ?_
    try simp only [Act.put, List.setIfInBounds_toArray, List.set_cons_zero, List.set_cons_succ]
    refine wpAnyH_take (i := 10) (oi := ⟨some 18, _, _, _, _, _⟩) (v := ?_) rfl (by kernel_rfl) (by kernel_rfl) (by kernel_rfl) (fun _ _ _ h => h) (Or.inl ⟨by rfl, ?_⟩) (by assumption) ?_
    rotate_left
    · intro wq hSw; go_simp; (try with_reducible rfl)
    try simp only [Act.put, List.setIfInBounds_toArray, List.set_cons_zero, List.set_cons_succ]
    refine wpAnyH_take (i := 11) (oi := ⟨some 2, _, _, _, _, _⟩) (v := ?_) rfl (by kernel_rfl) (by kernel_rfl) (by kernel_rfl) (fun _ _ _ h => h) (Or.inl ⟨by rfl, ?_⟩) (by assumption) ?_
    rotate_left
    · intro wq hSw; go_simp; (try with_reducible rfl)
    try simp only [Act.put, List.setIfInBounds_toArray, List.set_cons_zero, List.set_cons_succ]
    refine wpAnyH_done (by kernel_rfl) ?_ _
    have hHeld := hHeld1
    obtain ⟨⟨kz0, kc0, kf0⟩, ⟨kz1, kc1, kf1⟩, ⟨kz2, kc2, kf2⟩, ⟨kz3, kc3, kf3⟩, _⟩ := hHeld.2
    all_goals
      go_wp2_with fail
      go_ret
      exact ⟨by rw [g]; simp, under hB.out hHeld.1⟩
set_option maxRecDepth 100000 in
set_option maxHeartbeats 2000000 in
theorem refRight6_any (n a b m : Int) (fa : Fits a) (fb : Fits b) (w : World) :
    Calls Try.prog 14 #[.int .i64 n, wideV (rhi a) (rlo a), wideV (rhi b) (rlo b), .int .i64 m] w (Ret w (.bool (stepsB n a b m))) := by
  have TA := Lib.hid (fun W => refTerm_any a fa W)
  have TB := Lib.hid (fun W => refTerm_any b fb W)
  have e0 : countB n = (decide (0 ≤ n) && decide (n ≤ 256)) := rfl
  unfold stepsB
  rw [e0]
  clear fa fb e0
  generalize termB a = ba at *
  generalize termB b = bb at *
  generalize rhi a = a0 at *
  generalize rlo a = a1 at *
  generalize rhi b = b0 at *
  generalize rlo b = b1 at *
  obtain ⟨p1, q1⟩ : ∃ p, decide (0 ≤ n) = p := ⟨_, rfl⟩
  obtain ⟨p2, q2⟩ : ∃ p, decide (n ≤ 256) = p := ⟨_, rfl⟩
  obtain ⟨p3, q3⟩ : ∃ p, decide (1 ≤ m) = p := ⟨_, rfl⟩
  obtain ⟨p4, q4⟩ : ∃ p, decide (m ≤ 281474976710656) = p := ⟨_, rfl⟩
  rw [q1, q2, q3, q4]
  cases p1
  · go_enter Try.func14, Try.ntmps14
    go_wp2_with fail
    go_ret
    exact ⟨rfl, by go_grown⟩
  · cases p2
    · go_enter Try.func14, Try.ntmps14
      go_wp2_with fail
      go_ret
      exact ⟨rfl, by go_grown⟩
    · cases ba
      · go_enter Try.func14, Try.ntmps14
        go_wp2_with fail
        refine (TA.out _).mono ?_
        rintro e w1 ⟨rfl, hb⟩
        have hHeld : Keeps w [(w.heap.size + 1, 0, .int .i64 b0), (w.heap.size + 1, 1, .int .u64 b1)] _ := Keeps.next (by refine ⟨by go_grown, ?_⟩; simp [Cells, go_sem]) hb
        clear hb
        obtain ⟨⟨kz0, kc0, kf0⟩, ⟨kz1, kc1, kf1⟩, _⟩ := hHeld.2
        go_wp2_with fail
        go_ret
        exact ⟨rfl, hHeld.1⟩
      · cases bb
        · go_enter Try.func14, Try.ntmps14
          go_wp2_with fail
          refine (TA.out _).mono ?_
          rintro e w1 ⟨rfl, hb⟩
          have hHeld : Keeps w [(w.heap.size + 1, 0, .int .i64 b0), (w.heap.size + 1, 1, .int .u64 b1)] _ := Keeps.next (by refine ⟨by go_grown, ?_⟩; simp [Cells, go_sem]) hb
          clear hb
          obtain ⟨⟨kz0, kc0, kf0⟩, ⟨kz1, kc1, kf1⟩, _⟩ := hHeld.2
          go_wp2_with fail
          refine (TB.out _).mono ?_
          rintro e w2 ⟨rfl, hb⟩
          replace hHeld := Keeps.next (hHeld) hb
          clear hb kz0 kc0 kf0 kz1 kc1 kf1
          obtain ⟨⟨kz0, kc0, kf0⟩, ⟨kz1, kc1, kf1⟩, _⟩ := hHeld.2
          go_wp2_with fail
          go_ret
          exact ⟨rfl, hHeld.1⟩
        · cases p3
          · go_enter Try.func14, Try.ntmps14
            go_wp2_with fail
            refine (TA.out _).mono ?_
            rintro e w1 ⟨rfl, hb⟩
            have hHeld : Keeps w [(w.heap.size + 1, 0, .int .i64 b0), (w.heap.size + 1, 1, .int .u64 b1)] _ := Keeps.next (by refine ⟨by go_grown, ?_⟩; simp [Cells, go_sem]) hb
            clear hb
            obtain ⟨⟨kz0, kc0, kf0⟩, ⟨kz1, kc1, kf1⟩, _⟩ := hHeld.2
            go_wp2_with fail
            refine (TB.out _).mono ?_
            rintro e w2 ⟨rfl, hb⟩
            replace hHeld := Keeps.next (hHeld) hb
            clear hb kz0 kc0 kf0 kz1 kc1 kf1
            obtain ⟨⟨kz0, kc0, kf0⟩, ⟨kz1, kc1, kf1⟩, _⟩ := hHeld.2
            go_wp2_with fail
            go_ret
            exact ⟨rfl, hHeld.1⟩
          · go_enter Try.func14, Try.ntmps14
            go_wp2_with fail
            refine (TA.out _).mono ?_
            rintro e w1 ⟨rfl, hb⟩
            have hHeld : Keeps w [(w.heap.size + 1, 0, .int .i64 b0), (w.heap.size + 1, 1, .int .u64 b1)] _ := Keeps.next (by refine ⟨by go_grown, ?_⟩; simp [Cells, go_sem]) hb
            clear hb
            obtain ⟨⟨kz0, kc0, kf0⟩, ⟨kz1, kc1, kf1⟩, _⟩ := hHeld.2
            go_wp2_with fail
            refine (TB.out _).mono ?_
            rintro e w2 ⟨rfl, hb⟩
            replace hHeld := Keeps.next (hHeld) hb
            clear hb kz0 kc0 kf0 kz1 kc1 kf1
            obtain ⟨⟨kz0, kc0, kf0⟩, ⟨kz1, kc1, kf1⟩, _⟩ := hHeld.2
            go_wp2_with fail
            go_ret
            exact ⟨rfl, hHeld.1⟩
end Go.Proofs.Ytnacdofidmgfmaa
