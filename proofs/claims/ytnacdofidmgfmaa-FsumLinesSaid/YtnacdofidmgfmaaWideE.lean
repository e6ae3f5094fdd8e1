/-
  More of what package wide answers: products. Conditions: the words of a number are of 64 bits.
-/
import Derived.Test.YtnacdofidmgfmaaWideD
namespace Go.Proofs.Ytnacdofidmgfmaa
open Go.RowKit Go.Shelf

theorem mag_i64 {n : Int} (h : I64 n) : 0 ≤ mag n ∧ mag n ≤ 9223372036854775808 := by unfold mag; obtain ⟨_, _⟩ := h; split <;> omega
theorem fits_i64 {n : Int} (h : I64 n) : Fits n := by obtain ⟨_, _⟩ := h; unfold Fits; omega
theorem dl_mag {n : Int} (h : I64 n) : dl (mag n) = mag n := by have := mag_i64 h; unfold dl; omega

theorem field_dist (a b : Int) (w : World) : (Instr.field 127 (distV a b) 1).run Try.prog w = .ok (.int .u64 b) w := by kernel_rfl

set_option maxRecDepth 100000 in
set_option maxHeartbeats 1600000 in
theorem scale_walk (hi lo n : Int) (h : I64 hi) (k : U64 lo) (hn : I64 n) (w : World) (ba bn : Bool) (ea : decide (hi < 0) = ba) (en : decide (n < 0) = bn) :
    Calls Try.prog 48 #[wideV hi lo, .int .i64 n] w (Ret w (roomV (val hi lo * n))) := by
  have F := fits_val h k
  have HM := mag_fits F
  have EA := Lib.hid ea
  clear F ea
  go_enter Try.func48, Try.ntmps48
  go_wp2_with fail
  refine (far_any hi lo h k _).mono ?_
  rintro e w1 ⟨rfl, hb⟩
  have hHeld : Keeps w [(w.heap.size, 0, .int .i64 hi), (w.heap.size, 1, .int .u64 lo), (w.heap.size + 1, 0, .int .i64 0), (w.heap.size + 1, 1, .int .u64 0)] _ := Keeps.next (by refine ⟨by go_grown, ?_⟩; simp [Cells, go_sem]) hb
  clear hb
  obtain ⟨⟨kz0, kc0, kf0⟩, ⟨kz1, kc1, kf1⟩, ⟨kz2, kc2, kf2⟩, ⟨kz3, kc3, kf3⟩, _⟩ := hHeld.2
  go_wp2_with fail
  refine (of_any n hn _).mono ?_
  rintro e w2 ⟨rfl, hb⟩
  replace hHeld := Keeps.next (hHeld) hb
  clear hb kz0 kc0 kf0 kz1 kc1 kf1 kz2 kc2 kf2 kz3 kc3 kf3
  obtain ⟨⟨kz0, kc0, kf0⟩, ⟨kz1, kc1, kf1⟩, ⟨kz2, kc2, kf2⟩, ⟨kz3, kc3, kf3⟩, _⟩ := hHeld.2
  go_wp2_with fail
  refine (far_any (rhi n) (rlo n) (rhi_i64 n) (rlo_u64 n) _).mono ?_
  rintro e w3 ⟨rfl, hb⟩
  replace hHeld := Keeps.next (hHeld) hb
  clear hb kz0 kc0 kf0 kz1 kc1 kf1 kz2 kc2 kf2 kz3 kc3 kf3
  obtain ⟨⟨kz0, kc0, kf0⟩, ⟨kz1, kc1, kf1⟩, ⟨kz2, kc2, kf2⟩, ⟨kz3, kc3, kf3⟩, _⟩ := hHeld.2
  simp only [val_r (fits_i64 hn), dl_mag hn]
  go_wp2_with (simp only [field_dist])
  have HN := mag_i64 hn
  refine (times_any _ _ _ (dh_u64 (mag_nonneg _) (by omega)) (dl_u64 _) ⟨HN.1, by omega⟩ _).mono ?_
  rintro e w4 ⟨rfl, hb⟩
  replace hHeld := Keeps.next (hHeld) hb
  clear hb kz0 kc0 kf0 kz1 kc1 kf1 kz2 kc2 kf2 kz3 kc3 kf3
  obtain ⟨⟨kz0, kc0, kf0⟩, ⟨kz1, kc1, kf1⟩, ⟨kz2, kc2, kf2⟩, ⟨kz3, kc3, kf3⟩, _⟩ := hHeld.2
  simp only [val_d]
  have HP : Hid (0 ≤ mag (val hi lo) * mag n) := Lib.hid (Int.mul_nonneg (mag_nonneg _) (mag_nonneg _))
  clear HM HN
  generalize hP : mag (val hi lo) * mag n % 340282366920938463463374607431768211456 = P at *
  generalize hO : mag (val hi lo) * mag n / 340282366920938463463374607431768211456 = O at *
  have HPP := Lib.hid hP
  have hP0 : 0 ≤ P := by omega
  have hP1 : P < 340282366920938463463374607431768211456 := by omega
  have HO := Lib.hid hO
  clear hP hO
  go_upto_region 2 with fail
  go_cut [8, 9] (fun s8 s9 wx => ∃ g : Nat, ∃ bb : Bool, Hid (bb = (!ba == bn)) ∧ s8 = .pointer (some ⟨g, 0, none⟩) ∧ s9 = .bool (sfit bb (dh P) (dl P)) ∧ wx.cell? ⟨g, 0, none⟩ = some (.int .i64 (shi bb (dh P) (dl P))) ∧ wx.cell? ⟨g, 1, none⟩ = some (.int .u64 (slo bb (dl P))) ∧ Keeps w [(w.heap.size + 1, 0, .int .i64 0), (w.heap.size + 1, 1, .int .u64 0)] wx)
  case first =>
    refine region_keeps (w0 := w) (L := [(w.heap.size, 0, .int .i64 hi), (w.heap.size, 1, .int .u64 lo), (w.heap.size + 1, 0, .int .i64 0), (w.heap.size + 1, 1, .int .u64 0), (w4.heap.size, 0, .int .u64 (dh P)), (w4.heap.size, 1, .int .u64 (dl P))]) (by kernel_rfl) ((hHeld.alloc _).app (newK2 (hHeld.alloc _))) (fun hHeld0 => ?_)
    refine wpAnyH_take (i := 0) (oi := ⟨some 21, _, _, _, _, _⟩) (v := ?_) rfl (by kernel_rfl) (by kernel_rfl) (by kernel_rfl) (fun _ _ _ h => h) (Or.inl ⟨by rfl, ?_⟩) (by assumption) ?_
    rotate_left
    · intro wq hSw; obtain ⟨⟨qz0, qc0, qf0⟩, ⟨qz1, qc1, qf1⟩, ⟨qz2, qc2, qf2⟩, ⟨qz3, qc3, qf3⟩, ⟨qz4, qc4, qf4⟩, ⟨qz5, qc5, qf5⟩, _⟩ := hSw.2; go_simp; (try with_reducible rfl)
    try simp only [Act.put, List.setIfInBounds_toArray, List.set_cons_zero, List.set_cons_succ]
    refine wpAnyH_take (i := 1) (oi := ⟨some 22, _, _, _, _, _⟩) (v := ?_) rfl (by kernel_rfl) (by kernel_rfl) (by kernel_rfl) (fun _ _ _ h => h) (Or.inl ⟨by rfl, ?_⟩) (by assumption) ?_
    rotate_left
    · intro wq hSw; obtain ⟨⟨qz0, qc0, qf0⟩, ⟨qz1, qc1, qf1⟩, ⟨qz2, qc2, qf2⟩, ⟨qz3, qc3, qf3⟩, ⟨qz4, qc4, qf4⟩, ⟨qz5, qc5, qf5⟩, _⟩ := hSw.2; go_simp; (try with_reducible rfl)
    try simp only [Act.put, List.setIfInBounds_toArray, List.set_cons_zero, List.set_cons_succ]
    refine wpAnyH_take (i := 3) (oi := ⟨some 24, _, _, _, _, _⟩) (v := ?_) rfl (by kernel_rfl) (by kernel_rfl) (by kernel_rfl) (fun _ _ _ h => h) (Or.inl ⟨by rfl, ?_⟩) (by assumption) ?_
    rotate_left
    · intro wq hSw; go_simp; (try with_reducible rfl)
    try simp only [Act.put, List.setIfInBounds_toArray, List.set_cons_zero, List.set_cons_succ]
    refine wpAnyH_take (i := 4) (oi := ⟨some 25, _, _, _, _, _⟩) (v := ?_) rfl (by kernel_rfl) (by kernel_rfl) (by kernel_rfl) (fun _ _ _ h => h) (Or.inl ⟨by rfl, ?_⟩) (by assumption) ?_
    rotate_left
    · intro wq hSw; go_simp; (try with_reducible rfl)
    try simp only [Act.put, List.setIfInBounds_toArray, List.set_cons_zero, List.set_cons_succ]
    refine wpAnyH_ready (rs := [2, 10]) (by kernel_rfl) (by simp) ?_
    refine AllReadyH.cons (o := ⟨some 23, _, _, _, _, _⟩) rfl (fun K hK => ?_) ?_
    go_simp
    (first | ((with_reducible refine (below_is hi lo _ EA.out _).mono ?_); rintro e w5 ⟨rfl, hb⟩) | ((with_reducible refine (signed_any _ _ _ (dh_u64 hP0 hP1) (dl_u64 _) _).mono ?_); rintro e w6 ⟨rfl, hb⟩))
    refine hK.out _ _ (hHeld0.next hb) (fun hHeld1 => ?_)
    clear hK K
    try clear hb
    try simp only [Act.put, List.setIfInBounds_toArray, List.set_cons_zero, List.set_cons_succ]
    refine wpAnyH_take (i := 5) (oi := ⟨some 26, _, _, _, _, _⟩) (v := ?_) rfl (by kernel_rfl) (by kernel_rfl) (by kernel_rfl) (fun _ _ _ h => h) (Or.inl ⟨by rfl, ?_⟩) (by assumption) ?_
    rotate_left
    · intro wq hSw; go_simp; (try with_reducible rfl)
    try simp only [Act.put, List.setIfInBounds_toArray, List.set_cons_zero, List.set_cons_succ]
    refine wpAnyH_ready (rs := [6, 10]) (by kernel_rfl) (by simp) ?_
    refine AllReadyH.cons (o := ⟨some 27, _, _, _, _, _⟩) rfl (fun K hK => ?_) ?_
    go_simp
    (first | ((with_reducible refine (below_is hi lo _ EA.out _).mono ?_); rintro e w5 ⟨rfl, hb⟩) | ((with_reducible refine (signed_any _ _ _ (dh_u64 hP0 hP1) (dl_u64 _) _).mono ?_); rintro e w6 ⟨rfl, hb⟩))
    refine hK.out _ _ (hHeld1.next hb) (fun hHeld2 => ?_)
    clear hK K
    try clear hb
    try simp only [Act.put, List.setIfInBounds_toArray, List.set_cons_zero, List.set_cons_succ]
    refine wpAnyH_take (i := 7) (oi := ⟨some 20, _, _, _, _, _⟩) (v := ?_) rfl (by kernel_rfl) (by kernel_rfl) (by kernel_rfl) (fun _ _ _ h => h) (Or.inl ⟨by rfl, ?_⟩) (by assumption) ?_
    rotate_left
    · intro wq hSw; go_simp; (try with_reducible rfl)
    try simp only [Act.put, List.setIfInBounds_toArray, List.set_cons_zero, List.set_cons_succ]
    refine wpAnyH_take (i := 8) (oi := ⟨some 28, _, _, _, _, _⟩) (v := ?_) rfl (by kernel_rfl) (by kernel_rfl) (by kernel_rfl) (fun _ _ _ h => h) (Or.inl ⟨by rfl, ?_⟩) (by assumption) ?_
    rotate_left
    · intro wq hSw; go_simp; (try with_reducible rfl)
    try simp only [Act.put, List.setIfInBounds_toArray, List.set_cons_zero, List.set_cons_succ]
    refine wpAnyH_take (i := 9) (oi := ⟨some 29, _, _, _, _, _⟩) (v := ?_) rfl (by kernel_rfl) (by kernel_rfl) (by kernel_rfl) (fun _ _ _ h => h) (Or.inl ⟨by rfl, ?_⟩) (by assumption) ?_
    rotate_left
    · intro wq hSw; go_simp; (try with_reducible rfl)
    try simp only [Act.put, List.setIfInBounds_toArray, List.set_cons_zero, List.set_cons_succ]
    refine wpAnyH_ready (rs := [10]) (by kernel_rfl) (by simp) ?_
    refine AllReadyH.cons (o := ⟨some 8, _, _, _, _, _⟩) rfl (fun K hK => ?_) AllReadyH.nil
    go_simp
    refine hK.out _ _ (by first | exact hHeld2.alloc _ | exact (hHeld2.alloc _).drew) (fun hHeld3 => ?_)
    first | have hN3 := newK2 hHeld3 | have hN3 := newK2d hHeld3
    clear hK K
    try clear hb
    try simp only [Act.put, List.setIfInBounds_toArray, List.set_cons_zero, List.set_cons_succ]
    refine wpAnyH_ready (rs := [11]) (by kernel_rfl) (by simp) ?_
    refine AllReadyH.cons (o := ⟨none, _, _, _, _, _⟩) rfl (fun K hK => ?_) AllReadyH.nil
    have hz0 := hHeld2.1.size; obtain ⟨⟨az0, ac0, af0⟩, ⟨az1, ac1, af1⟩, ⟨az2, ac2, af2⟩, ⟨az3, ac3, af3⟩, ⟨az4, ac4, af4⟩, ⟨az5, ac5, af5⟩, _⟩ := hHeld2.2; (try simp at hz0); (try simp at az0); (try simp at az1); (try simp at az2); (try simp at az3); (try simp at az4); (try simp at az5)
    obtain ⟨⟨t0z0, t0c0, t0f0⟩, ⟨t0z1, t0c1, t0f1⟩, _⟩ := hN3.2; (try simp at t0z0); (try simp at t0c0); (try simp at t0f0); (try simp at t0z1); (try simp at t0c1); (try simp at t0f1)
    go_simp
    refine hK.out _ _ (by first | exact hHeld2.alloc _ | (repeat (first | (with_reducible exact hHeld3) | (with_reducible exact (Keeps.undrewR hHeld3)) | (refine Keeps.set ?_ (by simp <;> omega) (by simp <;> omega) _) | (with_reducible refine Keeps.drew ?_)))) (fun hHeld4 => ?_)
    clear hK K
    try clear hb
    try simp only [Act.put, List.setIfInBounds_toArray, List.set_cons_zero, List.set_cons_succ]
    refine wpAnyH_take (i := 12) (oi := ⟨some 9, _, _, _, _, _⟩) (v := ?_) rfl (by kernel_rfl) (by kernel_rfl) (by kernel_rfl) (fun _ _ _ h => h) (Or.inl ⟨by rfl, ?_⟩) (by assumption) ?_
    rotate_left
    · intro wq hSw; go_simp; (try with_reducible rfl)
    try simp only [Act.put, List.setIfInBounds_toArray, List.set_cons_zero, List.set_cons_succ]
    refine wpAnyH_done (by kernel_rfl) ?_ _
    have hHeld := hHeld4
    obtain ⟨⟨kz0, kc0, kf0⟩, ⟨kz1, kc1, kf1⟩, ⟨kz2, kc2, kf2⟩, ⟨kz3, kc3, kf3⟩, ⟨kz4, kc4, kf4⟩, ⟨kz5, kc5, kf5⟩, _⟩ := hHeld.2
    (go_wp2_with fail; go_meet; (case rel => exact ⟨_, _, Lib.hid rfl, rfl, rfl, by simp [go_sem, *], by simp [go_sem, *], hHeld.1, hHeld.2.2.2.1, hHeld.2.2.2.2.1, trivial⟩))
    refine AllReadyH.cons (o := ⟨some 8, _, _, _, _, _⟩) rfl (fun K hK => ?_) ?_
    go_simp
    refine hK.out _ _ (by first | exact hHeld1.alloc _ | exact (hHeld1.alloc _).drew) (fun hHeld5 => ?_)
    first | have hN5 := newK2 hHeld5 | have hN5 := newK2d hHeld5
    clear hK K
    try clear hb
    try simp only [Act.put, List.setIfInBounds_toArray, List.set_cons_zero, List.set_cons_succ]
    refine wpAnyH_ready (rs := [6]) (by kernel_rfl) (by simp) ?_
    refine AllReadyH.cons (o := ⟨some 27, _, _, _, _, _⟩) rfl (fun K hK => ?_) AllReadyH.nil
    go_simp
    (first | ((with_reducible refine (below_is hi lo _ EA.out _).mono ?_); rintro e w5 ⟨rfl, hb⟩) | ((with_reducible refine (signed_any _ _ _ (dh_u64 hP0 hP1) (dl_u64 _) _).mono ?_); rintro e w6 ⟨rfl, hb⟩))
    refine hK.out _ _ (hHeld5.next hb) (fun hHeld6 => ?_)
    replace hN5 := hN5.next hb
    clear hK K
    try clear hb
    try simp only [Act.put, List.setIfInBounds_toArray, List.set_cons_zero, List.set_cons_succ]
    refine wpAnyH_take (i := 7) (oi := ⟨some 20, _, _, _, _, _⟩) (v := ?_) rfl (by kernel_rfl) (by kernel_rfl) (by kernel_rfl) (fun _ _ _ h => h) (Or.inl ⟨by rfl, ?_⟩) (by assumption) ?_
    rotate_left
    · intro wq hSw; go_simp; (try with_reducible rfl)
    try simp only [Act.put, List.setIfInBounds_toArray, List.set_cons_zero, List.set_cons_succ]
    refine wpAnyH_take (i := 8) (oi := ⟨some 28, _, _, _, _, _⟩) (v := ?_) rfl (by kernel_rfl) (by kernel_rfl) (by kernel_rfl) (fun _ _ _ h => h) (Or.inl ⟨by rfl, ?_⟩) (by assumption) ?_
    rotate_left
    · intro wq hSw; go_simp; (try with_reducible rfl)
    try simp only [Act.put, List.setIfInBounds_toArray, List.set_cons_zero, List.set_cons_succ]
    refine wpAnyH_take (i := 9) (oi := ⟨some 29, _, _, _, _, _⟩) (v := ?_) rfl (by kernel_rfl) (by kernel_rfl) (by kernel_rfl) (fun _ _ _ h => h) (Or.inl ⟨by rfl, ?_⟩) (by assumption) ?_
    rotate_left
    · intro wq hSw; go_simp; (try with_reducible rfl)
    try simp only [Act.put, List.setIfInBounds_toArray, List.set_cons_zero, List.set_cons_succ]
    refine wpAnyH_ready (rs := [11]) (by kernel_rfl) (by simp) ?_
    refine AllReadyH.cons (o := ⟨none, _, _, _, _, _⟩) rfl (fun K hK => ?_) AllReadyH.nil
    have hz0 := hHeld1.1.size; obtain ⟨⟨az0, ac0, af0⟩, ⟨az1, ac1, af1⟩, ⟨az2, ac2, af2⟩, ⟨az3, ac3, af3⟩, ⟨az4, ac4, af4⟩, ⟨az5, ac5, af5⟩, _⟩ := hHeld1.2; (try simp at hz0); (try simp at az0); (try simp at az1); (try simp at az2); (try simp at az3); (try simp at az4); (try simp at az5)
    obtain ⟨⟨t0z0, t0c0, t0f0⟩, ⟨t0z1, t0c1, t0f1⟩, _⟩ := hN5.2; (try simp at t0z0); (try simp at t0c0); (try simp at t0f0); (try simp at t0z1); (try simp at t0c1); (try simp at t0f1)
    go_simp
    refine hK.out _ _ (by first | exact hHeld1.alloc _ | (repeat (first | (with_reducible exact hHeld6) | (with_reducible exact (Keeps.undrewR hHeld6)) | (refine Keeps.set ?_ (by simp <;> omega) (by simp <;> omega) _) | (with_reducible refine Keeps.drew ?_)))) (fun hHeld7 => ?_)
    clear hK K
    try clear hb
    try simp only [Act.put, List.setIfInBounds_toArray, List.set_cons_zero, List.set_cons_succ]
    refine wpAnyH_take (i := 12) (oi := ⟨some 9, _, _, _, _, _⟩) (v := ?_) rfl (by kernel_rfl) (by kernel_rfl) (by kernel_rfl) (fun _ _ _ h => h) (Or.inl ⟨by rfl, ?_⟩) (by assumption) ?_
    rotate_left
    · intro wq hSw; go_simp; (try with_reducible rfl)
    try simp only [Act.put, List.setIfInBounds_toArray, List.set_cons_zero, List.set_cons_succ]
    refine wpAnyH_done (by kernel_rfl) ?_ _
    have hHeld := hHeld7
    obtain ⟨⟨kz0, kc0, kf0⟩, ⟨kz1, kc1, kf1⟩, ⟨kz2, kc2, kf2⟩, ⟨kz3, kc3, kf3⟩, ⟨kz4, kc4, kf4⟩, ⟨kz5, kc5, kf5⟩, _⟩ := hHeld.2
    (go_wp2_with fail; go_meet; (case rel => exact ⟨_, _, Lib.hid rfl, rfl, rfl, by simp [go_sem, *], by simp [go_sem, *], hHeld.1, hHeld.2.2.2.1, hHeld.2.2.2.2.1, trivial⟩))
    exact AllReadyH.nil
    refine AllReadyH.cons (o := ⟨some 8, _, _, _, _, _⟩) rfl (fun K hK => ?_) ?_
    go_simp
    refine hK.out _ _ (by first | exact hHeld0.alloc _ | exact (hHeld0.alloc _).drew) (fun hHeld8 => ?_)
    first | have hN8 := newK2 hHeld8 | have hN8 := newK2d hHeld8
    clear hK K
    try clear hb
    try simp only [Act.put, List.setIfInBounds_toArray, List.set_cons_zero, List.set_cons_succ]
    refine wpAnyH_ready (rs := [2]) (by kernel_rfl) (by simp) ?_
    refine AllReadyH.cons (o := ⟨some 23, _, _, _, _, _⟩) rfl (fun K hK => ?_) AllReadyH.nil
    go_simp
    (first | ((with_reducible refine (below_is hi lo _ EA.out _).mono ?_); rintro e w5 ⟨rfl, hb⟩) | ((with_reducible refine (signed_any _ _ _ (dh_u64 hP0 hP1) (dl_u64 _) _).mono ?_); rintro e w6 ⟨rfl, hb⟩))
    refine hK.out _ _ (hHeld8.next hb) (fun hHeld9 => ?_)
    replace hN8 := hN8.next hb
    clear hK K
    try clear hb
    try simp only [Act.put, List.setIfInBounds_toArray, List.set_cons_zero, List.set_cons_succ]
    refine wpAnyH_take (i := 5) (oi := ⟨some 26, _, _, _, _, _⟩) (v := ?_) rfl (by kernel_rfl) (by kernel_rfl) (by kernel_rfl) (fun _ _ _ h => h) (Or.inl ⟨by rfl, ?_⟩) (by assumption) ?_
    rotate_left
    · intro wq hSw; go_simp; (try with_reducible rfl)
    try simp only [Act.put, List.setIfInBounds_toArray, List.set_cons_zero, List.set_cons_succ]
    refine wpAnyH_ready (rs := [6]) (by kernel_rfl) (by simp) ?_
    refine AllReadyH.cons (o := ⟨some 27, _, _, _, _, _⟩) rfl (fun K hK => ?_) AllReadyH.nil
    go_simp
    (first | ((with_reducible refine (below_is hi lo _ EA.out _).mono ?_); rintro e w5 ⟨rfl, hb⟩) | ((with_reducible refine (signed_any _ _ _ (dh_u64 hP0 hP1) (dl_u64 _) _).mono ?_); rintro e w6 ⟨rfl, hb⟩))
    refine hK.out _ _ (hHeld9.next hb) (fun hHeld10 => ?_)
    replace hN8 := hN8.next hb
    clear hK K
    try clear hb
    try simp only [Act.put, List.setIfInBounds_toArray, List.set_cons_zero, List.set_cons_succ]
    refine wpAnyH_take (i := 7) (oi := ⟨some 20, _, _, _, _, _⟩) (v := ?_) rfl (by kernel_rfl) (by kernel_rfl) (by kernel_rfl) (fun _ _ _ h => h) (Or.inl ⟨by rfl, ?_⟩) (by assumption) ?_
    rotate_left
    · intro wq hSw; go_simp; (try with_reducible rfl)
    try simp only [Act.put, List.setIfInBounds_toArray, List.set_cons_zero, List.set_cons_succ]
    refine wpAnyH_take (i := 8) (oi := ⟨some 28, _, _, _, _, _⟩) (v := ?_) rfl (by kernel_rfl) (by kernel_rfl) (by kernel_rfl) (fun _ _ _ h => h) (Or.inl ⟨by rfl, ?_⟩) (by assumption) ?_
    rotate_left
    · intro wq hSw; go_simp; (try with_reducible rfl)
    try simp only [Act.put, List.setIfInBounds_toArray, List.set_cons_zero, List.set_cons_succ]
    refine wpAnyH_take (i := 9) (oi := ⟨some 29, _, _, _, _, _⟩) (v := ?_) rfl (by kernel_rfl) (by kernel_rfl) (by kernel_rfl) (fun _ _ _ h => h) (Or.inl ⟨by rfl, ?_⟩) (by assumption) ?_
    rotate_left
    · intro wq hSw; go_simp; (try with_reducible rfl)
    try simp only [Act.put, List.setIfInBounds_toArray, List.set_cons_zero, List.set_cons_succ]
    refine wpAnyH_ready (rs := [11]) (by kernel_rfl) (by simp) ?_
    refine AllReadyH.cons (o := ⟨none, _, _, _, _, _⟩) rfl (fun K hK => ?_) AllReadyH.nil
    have hz0 := hHeld0.1.size; obtain ⟨⟨az0, ac0, af0⟩, ⟨az1, ac1, af1⟩, ⟨az2, ac2, af2⟩, ⟨az3, ac3, af3⟩, ⟨az4, ac4, af4⟩, ⟨az5, ac5, af5⟩, _⟩ := hHeld0.2; (try simp at hz0); (try simp at az0); (try simp at az1); (try simp at az2); (try simp at az3); (try simp at az4); (try simp at az5)
    obtain ⟨⟨t0z0, t0c0, t0f0⟩, ⟨t0z1, t0c1, t0f1⟩, _⟩ := hN8.2; (try simp at t0z0); (try simp at t0c0); (try simp at t0f0); (try simp at t0z1); (try simp at t0c1); (try simp at t0f1)
    go_simp
    refine hK.out _ _ (by first | exact hHeld0.alloc _ | (repeat (first | (with_reducible exact hHeld10) | (with_reducible exact (Keeps.undrewR hHeld10)) | (refine Keeps.set ?_ (by simp <;> omega) (by simp <;> omega) _) | (with_reducible refine Keeps.drew ?_)))) (fun hHeld11 => ?_)
    clear hK K
    try clear hb
    try simp only [Act.put, List.setIfInBounds_toArray, List.set_cons_zero, List.set_cons_succ]
    refine wpAnyH_take (i := 12) (oi := ⟨some 9, _, _, _, _, _⟩) (v := ?_) rfl (by kernel_rfl) (by kernel_rfl) (by kernel_rfl) (fun _ _ _ h => h) (Or.inl ⟨by rfl, ?_⟩) (by assumption) ?_
    rotate_left
    · intro wq hSw; go_simp; (try with_reducible rfl)
    try simp only [Act.put, List.setIfInBounds_toArray, List.set_cons_zero, List.set_cons_succ]
    refine wpAnyH_done (by kernel_rfl) ?_ _
    have hHeld := hHeld11
    obtain ⟨⟨kz0, kc0, kf0⟩, ⟨kz1, kc1, kf1⟩, ⟨kz2, kc2, kf2⟩, ⟨kz3, kc3, kf3⟩, ⟨kz4, kc4, kf4⟩, ⟨kz5, kc5, kf5⟩, _⟩ := hHeld.2
    (go_wp2_with fail; go_meet; (case rel => exact ⟨_, _, Lib.hid rfl, rfl, rfl, by simp [go_sem, *], by simp [go_sem, *], hHeld.1, hHeld.2.2.2.1, hHeld.2.2.2.2.1, trivial⟩))
    exact AllReadyH.nil
  case rest =>
    obtain ⟨g, bb, HBB, rfl, rfl, c0, c1, hHeld⟩ := hcut
    obtain ⟨⟨kz0, kc0, kf0⟩, ⟨kz1, kc1, kf1⟩, _⟩ := hHeld.2
    have hmath : Hid (∀ f o, sfit bb (dh P) (dl P) = f → (O == 0) = o → roomV (val hi lo * n) = .tuple #[wideV (if f && o then shi bb (dh P) (dl P) else 0) (if f && o then slo bb (dl P) else 0), .int .i64 (if f && o then 0 else 5)]) := by
      intro f o hf ho
      rw [← HPP.out] at hf ⊢
      rw [← HO.out] at ho
      have hbb : bb = (!decide (val hi lo < 0) == decide (n < 0)) := by
        rw [HBB.out, ← EA.out, ← en, decide_eq_decide.2 (val_neg (hi := hi) k)]
      obtain ⟨e1, e2, e3⟩ := scale_math hbb hf ho
      rw [e1, e2, e3]
    cases hf : sfit bb (dh P) (dl P)
    · have HF := Lib.hid hf
      clear hf
      go_wp2_with fail
      refine (ifRoomW_no _ _ _).mono ?_
      skip
      rintro e w7 ⟨rfl, hb⟩
      replace hHeld := Keeps.next (hHeld) hb
      clear hb kz0 kc0 kf0 kz1 kc1 kf1
      obtain ⟨⟨kz0, kc0, kf0⟩, ⟨kz1, kc1, kf1⟩, _⟩ := hHeld.2
      go_wp2_with fail
      refine bodyPost_ret (v := .tuple #[wideV 0 0, .int .i64 5]) (by simp [results, Try.results48, go_sem, kc0, kc1]) rfl ?_
      exact ⟨by rw [hmath.out _ _ HF.out rfl]; simp, by first | (with_reducible exact hHeld.1) | (have hB := hHeld.1; have hz := hB.size; go_grown)⟩
    · have HF := Lib.hid hf
      clear hf
      cases ho : (O == 0)
      · have HO2 := Lib.hid ho
        go_wp2_with fail
        refine (ifRoomW_no _ _ _).mono ?_
        skip
        rintro e w7 ⟨rfl, hb⟩
        replace hHeld := Keeps.next (hHeld) hb
        clear hb kz0 kc0 kf0 kz1 kc1 kf1
        obtain ⟨⟨kz0, kc0, kf0⟩, ⟨kz1, kc1, kf1⟩, _⟩ := hHeld.2
        go_wp2_with fail
        refine bodyPost_ret (v := .tuple #[wideV 0 0, .int .i64 5]) (by simp [results, Try.results48, go_sem, kc0, kc1]) rfl ?_
        exact ⟨by rw [hmath.out _ _ HF.out HO2.out]; simp, by first | (with_reducible exact hHeld.1) | (have hB := hHeld.1; have hz := hB.size; go_grown)⟩
      · have HO2 := Lib.hid ho
        go_wp2_with fail
        refine (ifRoomW_yes _ _ _).mono ?_
        skip
        rintro e w7 ⟨rfl, hb⟩
        replace hHeld := Keeps.next (hHeld) hb
        clear hb kz0 kc0 kf0 kz1 kc1 kf1
        obtain ⟨⟨kz0, kc0, kf0⟩, ⟨kz1, kc1, kf1⟩, _⟩ := hHeld.2
        go_wp2_with fail
        refine bodyPost_ret (v := .tuple #[wideV (shi bb (dh P) (dl P)) (slo bb (dl P)), .int .i64 0]) (by simp [results, Try.results48, go_sem, kc0, kc1]) rfl ?_
        exact ⟨by rw [hmath.out _ _ HF.out HO2.out]; simp, by first | (with_reducible exact hHeld.1) | (have hB := hHeld.1; have hz := hB.size; go_grown)⟩
theorem scale_any (hi lo n : Int) (h : I64 hi) (k : U64 lo) (hn : I64 n) (w : World) :
    Calls Try.prog 48 #[wideV hi lo, .int .i64 n] w (Ret w (roomV (val hi lo * n))) :=
  scale_walk hi lo n h k hn w _ _ rfl rfl
end Go.Proofs.Ytnacdofidmgfmaa
