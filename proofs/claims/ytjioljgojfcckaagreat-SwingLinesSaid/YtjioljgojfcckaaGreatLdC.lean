/-
  The document's own answers for layer 5: a line's value, and whether its exact one is in a span. Conditions: the numbers are of 64 bits.
-/
import Derived.Maps.RangeWalk
import Derived.Test.YtjioljgojfcckaaGreatLdB
namespace Go.Proofs.YtjioljgojfcckaaGreat
open Go.RowKit

set_option maxRecDepth 100000 in
set_option maxHeartbeats 16000000 in
theorem refWithin_any (a r n d t lo hi : Int) (h : lineB a r n d = true) (ht : timeB t = true) (h1 : I64 lo) (h2 : I64 hi) (w : World) :
    Calls Tryz.prog 28 #[lnV a r n d, .int .i64 t, .int .i64 lo, .int .i64 hi] w (Ret w (.bool (decide (lo * d ≤ exV a r n d t) && decide (exV a r n d t ≤ hi * d)))) := by
  obtain ⟨i1, i2, i3, i4, i5, d1, d2, _⟩ := ex_bounds h ht
  obtain ⟨b1, b2, b3, b4⟩ := ref_bounds h ht
  have l1 := i64_len lo h1
  have l2 := i64_len hi h2
  have l3 := i64_len d i3
  have ID := Lib.hid (fun W => intZ_any d i3.1 i3.2 W)
  have IL := Lib.hid (fun W => intZ_any lo h1.1 h1.2 W)
  have IH := Lib.hid (fun W => intZ_any hi h2.1 h2.2 W)
  have TM := Lib.hid (fun W => refTimes_any a r n d t h ht W)
  have M1 := Lib.hid (fun u u' W k k' => mulZ_any lo d (by omega) u u' W k k')
  have M2 := Lib.hid (fun u u' W k k' => mulZ_any hi d (by omega) u u' W k k')
  have s1 := size_mul lo.natAbs d.natAbs
  have s2 := size_mul hi.natAbs d.natAbs
  rw [← Int.natAbs_mul] at s1 s2
  have L1 := fun u u' W k k' => lessZ_any (exV a r n d t) (lo * d) (by omega) (by omega) u u' W k k'
  have L2 := fun u u' W k k' => lessZ_any (hi * d) (exV a r n d t) (by omega) (by omega) u u' W k k'
  have e1 : decide (lo * d ≤ exV a r n d t) = !decide (exV a r n d t < lo * d) := by rw [Bool.eq_iff_iff]; simp
  have e2 : decide (exV a r n d t ≤ hi * d) = !decide (hi * d < exV a r n d t) := by rw [Bool.eq_iff_iff]; simp
  rw [e1, e2]
  clear e1 e2 l1 l2 l3 b1 b2 b3 b4 i1 i2 i3 i4 i5 h ht h1 h2 s1 s2
  generalize exV a r n d t = X at *
  generalize lo * d = P at *
  generalize hi * d = T at *
  generalize decide (X < P) = u at *
  generalize decide (T < X) = v at *
  replace L1 := Lib.hid L1
  replace L2 := Lib.hid L2
  cases u
  all_goals
    go_enter Tryz.func28, Tryz.ntmps28
    go_wp2_with fail
    refine (TM.out _).mono ?_
    rintro e w1 ⟨b1, A1, n1, c1, rfl, hb, z1⟩
    have hHeld : Keeps w [(w.heap.size, 0, .int .i64 a), (w.heap.size, 1, .int .i64 r), (w.heap.size, 2, .int .i64 n), (w.heap.size, 3, .int .i64 d)] w1 := Keeps.next (by refine ⟨by go_grown, ?_⟩; simp [Cells, go_sem]) hb
    replace z1 := Lib.hid (z1.below (below_alloc w1 (.cells #[.bool b1, .slice A1 n1 c1] 91)))
    clear hb
    obtain ⟨⟨kz0, kc0, kf0⟩, ⟨kz1, kc1, kf1⟩, ⟨kz2, kc2, kf2⟩, ⟨kz3, kc3, kf3⟩, _⟩ := hHeld.2
    go_wp2_with fail
    refine (ID.out _).mono ?_
    rintro e w2 ⟨b2, A2, n2, c2, rfl, hb, z2⟩
    replace z1 := Lib.hid ((z1.out.below hb).below (below_alloc w2 (.cells #[.bool b2, .slice A2 n2 c2] 91)))
    replace z2 := Lib.hid (z2.below (below_alloc w2 (.cells #[.bool b2, .slice A2 n2 c2] 91)))
    replace hHeld : Keeps w [(w.heap.size, 0, .int .i64 a), (w.heap.size, 1, .int .i64 r), (w.heap.size, 2, .int .i64 n), (w.heap.size, 3, .int .i64 d), (w1.heap.size, 0, .bool b1), (w1.heap.size, 1, .slice A1 n1 c1)] w2 := Keeps.next ((hHeld.alloc _).app (newK2 (hHeld.alloc _))) hb
    clear hb kz0 kc0 kf0 kz1 kc1 kf1 kz2 kc2 kf2 kz3 kc3 kf3
    have hK := (hHeld.alloc (.cells #[.bool b2, .slice A2 n2 c2] 91)).app (newK2 (hHeld.alloc (.cells #[.bool b2, .slice A2 n2 c2] 91)))
    go_wp2_with fail
  · skip
    refine region_keeps (w0 := w) (L := [(w1.heap.size, 0, .bool b1), (w1.heap.size, 1, .slice A1 n1 c1), (w2.heap.size, 0, .bool b2), (w2.heap.size, 1, .slice A2 n2 c2)]) (by kernel_rfl) ⟨hK.1, hK.2.2.2.2.2⟩ (fun hHeld0 => ?_)
    refine wpAnyH_take (i := 0) (oi := ⟨some 17, _, _, _, _, _⟩) (v := ?_) rfl (by kernel_rfl) (by kernel_rfl) (by kernel_rfl) (fun _ _ _ h => h) (Or.inl ⟨by rfl, ?_⟩) (by assumption) ?_
    rotate_left
    · intro wq hSw; obtain ⟨⟨qz0, qc0, qf0⟩, ⟨qz1, qc1, qf1⟩, ⟨qz2, qc2, qf2⟩, ⟨qz3, qc3, qf3⟩, _⟩ := hSw.2; go_simp; (try with_reducible rfl)
    try go_frame
    refine wpAnyH_take (i := 1) (oi := ⟨some 18, _, _, _, _, _⟩) (v := ?_) rfl (by kernel_rfl) (by kernel_rfl) (by kernel_rfl) (fun _ _ _ h => h) (Or.inl ⟨by rfl, ?_⟩) (by assumption) ?_
    rotate_left
    · intro wq hSw; go_simp; (try with_reducible rfl)
    try go_frame
    refine wpAnyH_take (i := 3) (oi := ⟨some 20, _, _, _, _, _⟩) (v := ?_) rfl (by kernel_rfl) (by kernel_rfl) (by kernel_rfl) (fun _ _ _ h => h) (Or.inl ⟨by rfl, ?_⟩) (by assumption) ?_
    rotate_left
    · intro wq hSw; obtain ⟨⟨qz0, qc0, qf0⟩, ⟨qz1, qc1, qf1⟩, ⟨qz2, qc2, qf2⟩, ⟨qz3, qc3, qf3⟩, _⟩ := hSw.2; go_simp; (try with_reducible rfl)
    try go_frame
    refine wpAnyH_ready (rs := [2]) (by kernel_rfl) (by simp) ?_
    refine AllReadyH.cons (o := ⟨some 19, _, _, _, _, _⟩) rfl (fun K hK => ?_) AllReadyH.nil
    go_simp
    ((with_reducible refine Calls.mono (IL.out _) ?_); rintro en w3 ⟨b3, A3, n3, c3, rfl, hb, z3⟩; have X3 := Lib.hid ((z1.out.below (Below.refl _ _).drew).below hb); have D3 := Lib.hid ((z2.out.below (Below.refl _ _).drew).below hb))
    refine hK.out _ _ (hHeld0.next hb) (fun hHeld1 => ?_)
    clear hK K
    try clear hb
    try go_frame
    refine wpAnyH_ready (rs := [4]) (by kernel_rfl) (by simp) ?_
    refine AllReadyH.cons (o := ⟨some 21, _, _, _, _, _⟩) rfl (fun K hK => ?_) AllReadyH.nil
    go_simp
    ((with_reducible refine Calls.mono (M1.out _ _ _ z3 D3.out) ?_); rintro en w4 ⟨b4, A4, n4, c4, rfl, hb, z4⟩; have X4 := Lib.hid (X3.out.below hb); have D4 := Lib.hid (D3.out.below hb); clear z3 X3 D3)
    refine hK.out _ _ (hHeld1.next hb) (fun hHeld2 => ?_)
    clear hK K
    try clear hb
    try go_frame
    refine wpAnyH_ready (rs := [5]) (by kernel_rfl) (by simp) ?_
    refine AllReadyH.cons (o := ⟨some 22, _, _, _, _, _⟩) rfl (fun K hK => ?_) AllReadyH.nil
    go_simp
    ((with_reducible refine Calls.mono (L1.out _ _ _ X4.out z4) ?_); rintro en w5 ⟨rfl, hb⟩; have X5 := Lib.hid (X4.out.below hb); have D5 := Lib.hid (D4.out.below hb); clear z4 X4 D4)
    refine hK.out _ _ (hHeld2.next hb) (fun hHeld3 => ?_)
    clear hK K
    try clear hb
    try go_frame
    refine wpAnyH_take (i := 6) (oi := ⟨some 23, _, _, _, _, _⟩) (v := ?_) rfl (by kernel_rfl) (by kernel_rfl) (by kernel_rfl) (fun _ _ _ h => h) (Or.inl ⟨by rfl, ?_⟩) (by assumption) ?_
    rotate_left
    · intro wq hSw; go_simp; (try with_reducible rfl)
    try go_frame
    refine wpAnyH_take (i := 7) (oi := ⟨some 24, _, _, _, _, _⟩) (v := ?_) rfl (by kernel_rfl) (by kernel_rfl) (by kernel_rfl) (fun _ _ _ h => h) (Or.inl ⟨by rfl, ?_⟩) (by assumption) ?_
    rotate_left
    · intro wq hSw; go_simp; (try with_reducible rfl)
    try go_frame
    refine wpAnyH_take (i := 8) (oi := ⟨some 25, _, _, _, _, _⟩) (v := ?_) rfl (by kernel_rfl) (by kernel_rfl) (by kernel_rfl) (fun _ _ _ h => h) (Or.inl ⟨by rfl, ?_⟩) (by assumption) ?_
    rotate_left
    · intro wq hSw; go_simp; (try with_reducible rfl)
    try go_frame
    refine wpAnyH_take (i := 10) (oi := ⟨some 27, _, _, _, _, _⟩) (v := ?_) rfl (by kernel_rfl) (by kernel_rfl) (by kernel_rfl) (fun _ _ _ h => h) (Or.inl ⟨by rfl, ?_⟩) (by assumption) ?_
    rotate_left
    · intro wq hSw; obtain ⟨⟨qz0, qc0, qf0⟩, ⟨qz1, qc1, qf1⟩, ⟨qz2, qc2, qf2⟩, ⟨qz3, qc3, qf3⟩, _⟩ := hSw.2; go_simp; (try with_reducible rfl)
    try go_frame
    refine wpAnyH_take (i := 12) (oi := ⟨some 29, _, _, _, _, _⟩) (v := ?_) rfl (by kernel_rfl) (by kernel_rfl) (by kernel_rfl) (fun _ _ _ h => h) (Or.inl ⟨by rfl, ?_⟩) (by assumption) ?_
    rotate_left
    · intro wq hSw; obtain ⟨⟨qz0, qc0, qf0⟩, ⟨qz1, qc1, qf1⟩, ⟨qz2, qc2, qf2⟩, ⟨qz3, qc3, qf3⟩, _⟩ := hSw.2; go_simp; (try with_reducible rfl)
    try go_frame
    refine wpAnyH_ready (rs := [9]) (by kernel_rfl) (by simp) ?_
    refine AllReadyH.cons (o := ⟨some 26, _, _, _, _, _⟩) rfl (fun K hK => ?_) AllReadyH.nil
    go_simp
    ((with_reducible refine Calls.mono (IH.out _) ?_); rintro en w6 ⟨b6, A6, n6, c6, rfl, hb, z6⟩; have X6 := Lib.hid (X5.out.below hb); have D6 := Lib.hid (D5.out.below hb); clear X5 D5)
    refine hK.out _ _ (hHeld3.next hb) (fun hHeld4 => ?_)
    clear hK K
    try clear hb
    try go_frame
    refine wpAnyH_ready (rs := [11]) (by kernel_rfl) (by simp) ?_
    refine AllReadyH.cons (o := ⟨some 28, _, _, _, _, _⟩) rfl (fun K hK => ?_) AllReadyH.nil
    go_simp
    ((with_reducible refine Calls.mono (M2.out _ _ _ z6 D6.out) ?_); rintro en w7 ⟨b7, A7, n7, c7, rfl, hb, z7⟩; have X7 := Lib.hid (X6.out.below hb); clear z6 X6 D6)
    refine hK.out _ _ (hHeld4.next hb) (fun hHeld5 => ?_)
    clear hK K
    try clear hb
    try go_frame
    refine wpAnyH_ready (rs := [13]) (by kernel_rfl) (by simp) ?_
    refine AllReadyH.cons (o := ⟨some 30, _, _, _, _, _⟩) rfl (fun K hK => ?_) AllReadyH.nil
    go_simp
    ((with_reducible refine Calls.mono (L2.out _ _ _ z7 X7.out) ?_); rintro en w8 ⟨rfl, hb⟩; clear z7 X7)
    refine hK.out _ _ (hHeld5.next hb) (fun hHeld6 => ?_)
    clear hK K
    try clear hb
    try go_frame
    refine wpAnyH_take (i := 14) (oi := ⟨some 31, _, _, _, _, _⟩) (v := ?_) rfl (by kernel_rfl) (by kernel_rfl) (by kernel_rfl) (fun _ _ _ h => h) (Or.inl ⟨by rfl, ?_⟩) (by assumption) ?_
    rotate_left
    · intro wq hSw; go_simp; (try with_reducible rfl)
    try go_frame
    refine wpAnyH_take (i := 15) (oi := ⟨some 32, _, _, _, _, _⟩) (v := ?_) rfl (by kernel_rfl) (by kernel_rfl) (by kernel_rfl) (fun _ _ _ h => h) (Or.inl ⟨by rfl, ?_⟩) (by assumption) ?_
    rotate_left
    · intro wq hSw; go_simp; (try with_reducible rfl)
    try go_frame
    refine wpAnyH_take (i := 16) (oi := ⟨some 8, _, _, _, _, _⟩) (v := ?_) rfl (by kernel_rfl) (by kernel_rfl) (by kernel_rfl) (fun _ _ _ h => h) (Or.inl ⟨by rfl, ?_⟩) (by assumption) ?_
    rotate_left
    · intro wq hSw; go_simp; (try with_reducible rfl)
    try go_frame
    refine wpAnyH_done (by kernel_rfl) ?_ _
    have hHeld := hHeld6
    obtain ⟨⟨kz0, kc0, kf0⟩, ⟨kz1, kc1, kf1⟩, ⟨kz2, kc2, kf2⟩, ⟨kz3, kc3, kf3⟩, _⟩ := hHeld.2
    all_goals
      go_wp2_with fail
      go_ret
      exact ⟨rfl, hHeld.1⟩
  · skip
    refine region_keeps (w0 := w) (L := [(w1.heap.size, 0, .bool b1), (w1.heap.size, 1, .slice A1 n1 c1), (w2.heap.size, 0, .bool b2), (w2.heap.size, 1, .slice A2 n2 c2)]) (by kernel_rfl) ⟨hK.1, hK.2.2.2.2.2⟩ (fun hHeld0 => ?_)
    refine wpAnyH_take (i := 0) (oi := ⟨some 17, _, _, _, _, _⟩) (v := ?_) rfl (by kernel_rfl) (by kernel_rfl) (by kernel_rfl) (fun _ _ _ h => h) (Or.inl ⟨by rfl, ?_⟩) (by assumption) ?_
    rotate_left
    · intro wq hSw; obtain ⟨⟨qz0, qc0, qf0⟩, ⟨qz1, qc1, qf1⟩, ⟨qz2, qc2, qf2⟩, ⟨qz3, qc3, qf3⟩, _⟩ := hSw.2; go_simp; (try with_reducible rfl)
    try go_frame
    refine wpAnyH_take (i := 1) (oi := ⟨some 18, _, _, _, _, _⟩) (v := ?_) rfl (by kernel_rfl) (by kernel_rfl) (by kernel_rfl) (fun _ _ _ h => h) (Or.inl ⟨by rfl, ?_⟩) (by assumption) ?_
    rotate_left
    · intro wq hSw; go_simp; (try with_reducible rfl)
    try go_frame
    refine wpAnyH_take (i := 3) (oi := ⟨some 20, _, _, _, _, _⟩) (v := ?_) rfl (by kernel_rfl) (by kernel_rfl) (by kernel_rfl) (fun _ _ _ h => h) (Or.inl ⟨by rfl, ?_⟩) (by assumption) ?_
    rotate_left
    · intro wq hSw; obtain ⟨⟨qz0, qc0, qf0⟩, ⟨qz1, qc1, qf1⟩, ⟨qz2, qc2, qf2⟩, ⟨qz3, qc3, qf3⟩, _⟩ := hSw.2; go_simp; (try with_reducible rfl)
    try go_frame
    refine wpAnyH_ready (rs := [2]) (by kernel_rfl) (by simp) ?_
    refine AllReadyH.cons (o := ⟨some 19, _, _, _, _, _⟩) rfl (fun K hK => ?_) AllReadyH.nil
    go_simp
    ((with_reducible refine Calls.mono (IL.out _) ?_); rintro en w3 ⟨b3, A3, n3, c3, rfl, hb, z3⟩; have X3 := Lib.hid ((z1.out.below (Below.refl _ _).drew).below hb); have D3 := Lib.hid ((z2.out.below (Below.refl _ _).drew).below hb))
    refine hK.out _ _ (hHeld0.next hb) (fun hHeld1 => ?_)
    clear hK K
    try clear hb
    try go_frame
    refine wpAnyH_ready (rs := [4]) (by kernel_rfl) (by simp) ?_
    refine AllReadyH.cons (o := ⟨some 21, _, _, _, _, _⟩) rfl (fun K hK => ?_) AllReadyH.nil
    go_simp
    ((with_reducible refine Calls.mono (M1.out _ _ _ z3 D3.out) ?_); rintro en w4 ⟨b4, A4, n4, c4, rfl, hb, z4⟩; have X4 := Lib.hid (X3.out.below hb); have D4 := Lib.hid (D3.out.below hb); clear z3 X3 D3)
    refine hK.out _ _ (hHeld1.next hb) (fun hHeld2 => ?_)
    clear hK K
    try clear hb
    try go_frame
    refine wpAnyH_ready (rs := [5]) (by kernel_rfl) (by simp) ?_
    refine AllReadyH.cons (o := ⟨some 22, _, _, _, _, _⟩) rfl (fun K hK => ?_) AllReadyH.nil
    go_simp
    ((with_reducible refine Calls.mono (L1.out _ _ _ X4.out z4) ?_); rintro en w5 ⟨rfl, hb⟩; have X5 := Lib.hid (X4.out.below hb); have D5 := Lib.hid (D4.out.below hb); clear z4 X4 D4)
    refine hK.out _ _ (hHeld2.next hb) (fun hHeld3 => ?_)
    clear hK K
    try clear hb
    try go_frame
    refine wpAnyH_take (i := 6) (oi := ⟨some 23, _, _, _, _, _⟩) (v := ?_) rfl (by kernel_rfl) (by kernel_rfl) (by kernel_rfl) (fun _ _ _ h => h) (Or.inl ⟨by rfl, ?_⟩) (by assumption) ?_
    rotate_left
    · intro wq hSw; go_simp; (try with_reducible rfl)
    try go_frame
    refine wpAnyH_take (i := 7) (oi := ⟨some 24, _, _, _, _, _⟩) (v := ?_) rfl (by kernel_rfl) (by kernel_rfl) (by kernel_rfl) (fun _ _ _ h => h) (Or.inl ⟨by rfl, ?_⟩) (by assumption) ?_
    rotate_left
    · intro wq hSw; go_simp; (try with_reducible rfl)
    try go_frame
    refine wpAnyH_take (i := 8) (oi := ⟨some 25, _, _, _, _, _⟩) (v := undef) rfl (by kernel_rfl) (by kernel_rfl) (by kernel_rfl) (fun _ _ _ h => h) (Or.inr ⟨by rfl, rfl⟩) (by assumption) ?_
    try go_frame
    refine wpAnyH_take (i := 9) (oi := ⟨some 26, _, _, _, _, _⟩) (v := undef) rfl (by kernel_rfl) (by kernel_rfl) (by kernel_rfl) (fun _ _ _ h => h) (Or.inr ⟨by rfl, rfl⟩) (by assumption) ?_
    try go_frame
    refine wpAnyH_take (i := 10) (oi := ⟨some 27, _, _, _, _, _⟩) (v := undef) rfl (by kernel_rfl) (by kernel_rfl) (by kernel_rfl) (fun _ _ _ h => h) (Or.inr ⟨by rfl, rfl⟩) (by assumption) ?_
    try go_frame
    refine wpAnyH_take (i := 11) (oi := ⟨some 28, _, _, _, _, _⟩) (v := undef) rfl (by kernel_rfl) (by kernel_rfl) (by kernel_rfl) (fun _ _ _ h => h) (Or.inr ⟨by rfl, rfl⟩) (by assumption) ?_
    try go_frame
    refine wpAnyH_take (i := 12) (oi := ⟨some 29, _, _, _, _, _⟩) (v := undef) rfl (by kernel_rfl) (by kernel_rfl) (by kernel_rfl) (fun _ _ _ h => h) (Or.inr ⟨by rfl, rfl⟩) (by assumption) ?_
    try go_frame
    refine wpAnyH_take (i := 13) (oi := ⟨some 30, _, _, _, _, _⟩) (v := undef) rfl (by kernel_rfl) (by kernel_rfl) (by kernel_rfl) (fun _ _ _ h => h) (Or.inr ⟨by rfl, rfl⟩) (by assumption) ?_
    try go_frame
    refine wpAnyH_take (i := 14) (oi := ⟨some 31, _, _, _, _, _⟩) (v := undef) rfl (by kernel_rfl) (by kernel_rfl) (by kernel_rfl) (fun _ _ _ h => h) (Or.inr ⟨by rfl, rfl⟩) (by assumption) ?_
    try go_frame
    refine wpAnyH_take (i := 15) (oi := ⟨some 32, _, _, _, _, _⟩) (v := ?_) rfl (by kernel_rfl) (by kernel_rfl) (by kernel_rfl) (fun _ _ _ h => h) (Or.inl ⟨by rfl, ?_⟩) (by assumption) ?_
    rotate_left
    · intro wq hSw; go_simp; (try with_reducible rfl)
    try go_frame
    refine wpAnyH_take (i := 16) (oi := ⟨some 8, _, _, _, _, _⟩) (v := ?_) rfl (by kernel_rfl) (by kernel_rfl) (by kernel_rfl) (fun _ _ _ h => h) (Or.inl ⟨by rfl, ?_⟩) (by assumption) ?_
    rotate_left
    · intro wq hSw; go_simp; (try with_reducible rfl)
    try go_frame
    refine wpAnyH_done (by kernel_rfl) ?_ _
    have hHeld := hHeld3
    obtain ⟨⟨kz0, kc0, kf0⟩, ⟨kz1, kc1, kf1⟩, ⟨kz2, kc2, kf2⟩, ⟨kz3, kc3, kf3⟩, _⟩ := hHeld.2
    all_goals
      go_wp2_with fail
      go_ret
      exact ⟨rfl, hHeld.1⟩
end Go.Proofs.YtjioljgojfcckaaGreat
