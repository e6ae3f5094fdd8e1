/-
 Layer 5: which lines may be; their exact values times D; what is over D. Conditions: those written at each fact.
-/
import Derived.Test.YtcfidimnbamnkaaGreatKitW
import Derived.Maps.RangeWalk
import Derived.Test.YtcfidimnbamnkaaGreatLB
import Derived.Test.YtcfidimnbamnkaaGreatWA
namespace Go.Proofs.YtcfidimnbamnkaaGreat
open Go.RowKit

abbrev lnV (a r n d : Int) : Value := .agg #[.int .i64 a, .int .i64 r, .int .i64 n, .int .i64 d]
abbrev wz (z : Int) : Value := wideV (rhi z) (rlo z)
def lineB (a r n d : Int) : Bool := slopeB n d && (lowN n d == n && lowD n d == d) && backB a && decide (0 ≤ r) && decide (r < d)
theorem lineB_iff (a r n d : Int) : lineB a r n d = true ↔ slopeB n d = true ∧ (lowN n d = n ∧ lowD n d = d) ∧ backB a = true ∧ 0 ≤ r ∧ r < d := by
 unfold lineB; simp only [Bool.and_eq_true, decide_eq_true_eq, beq_iff_eq]; simp only [and_assoc]
theorem readsS_one {w : World} {t : TypeId} {a b : Int} {v : Value} (hv : v = .slice (some ⟨w.heap.size, 0, none⟩) 1 1) : ReadsS (w.alloc (.cells #[.int .i64 a, .int .i64 b] t)) v [(a, b)] := by
 subst hv
 refine ⟨_, 1, rfl, fun i s hi => ?_⟩
 match i, hi with
 | 0, hi => simp at hi; subst hi; exact ⟨_, 0, rfl, by simp, by simp [go_sem], by simp [go_sem]⟩
set_option maxRecDepth 100000 in
set_option maxHeartbeats 2000000 in
theorem acheck_any (a r n d : Int) (w : World) : Calls Tryz.prog 122 #[lnV a r n d] w (Ret w (.int .i64 (if lineB a r n d then 0 else 150))) := by
 have CS := fun v W k => checkSlopes_any [(n, d)] (by simp) v W k
 have LO := lowest_any n d
 have IB := Lib.hid (fun W => isBack_any a W)
 have LI := lineB_iff a r n d
 obtain ⟨R, hR⟩ : ∃ R : Value, R = .int .i64 (if lineB a r n d then 0 else 150) := ⟨_, rfl⟩
 rw [← hR]
 by_cases gs : slopeB n d = true
 ·have e : badL [(n, d)] = false := by simp [badL, gs]
  rw [e, if_neg (by simp)] at CS
  replace CS := Lib.hid CS
  replace LO := Lib.hid (LO gs)
  generalize lowN n d = x at *
  generalize lowD n d = y at *
  by_cases g1 : x = n
  ·have t1 : (x == n) = true := by simpa using g1
   by_cases g2 : y = d
   ·have t2 : (y == d) = true := by simpa using g2
    have LJ : lineB a r n d = true ↔ backB a = true ∧ 0 ≤ r ∧ r < d := by rw [LI]; simp [gs, g1, g2]
    clear LI gs e
    subst g1 g2
    cases gb : backB a
    ·rw [gb] at IB
     have e : R = .int .i64 150 := by rw [hR, if_neg (by rw [LJ]; simp [gb])]
     clear hR LJ gb
     subst e
     go_enter Tryz.func122, Tryz.ntmps122
     go_wp2_with fail
     refine region_keeps (w0 := w) (L := [(w.heap.size, 0, .int .i64 a), (w.heap.size, 1, .int .i64 r), (w.heap.size, 2, .int .i64 x), (w.heap.size, 3, .int .i64 y), (w.heap.size + 1, 0, .int .i64 x), (w.heap.size + 1, 1, .int .i64 y)]) (by kernel_rfl) (by first | exact hHeld | (refine ⟨by go_grown, ?_⟩; simp [Cells, go_sem]; done)) (fun hHeld0 => ?_)
     refine tk 0 11 rfl rfl ?_ ?_ ?_
     rotate_left
     ·intro wq hSw; obtain ⟨⟨_,_,_⟩,⟨_,_,_⟩,⟨_,_,_⟩,⟨_,_,_⟩,⟨_,_,_⟩,⟨_,_,_⟩,_⟩ := hSw.2; go_simp; (try with_reducible rfl)
     try go_frame
     refine ty [1] ?_
     refine AllReadyH.cons rfl (fun K hK => ?_) AllReadyH.nil
     go_simp
     refine hK.out _ _ (by first | exact hHeld0.alloc _ | exact (hHeld0.alloc _).drew) (fun hHeld1 => ?_)
     clear hK K; try clear hb
     try go_frame
     refine ty [2] ?_
     refine AllReadyH.cons rfl (fun K hK => ?_) AllReadyH.nil
     go_simp
     (first | ((with_reducible refine Calls.mono (CS.out _ _ ?_) ?_); · exact readsS_one (by simp)) | (with_reducible refine Calls.mono (LO.out _) ?_)); rintro e w5 ⟨rfl, hb⟩
     refine hK.out _ _ (hHeld1.next hb) (fun hHeld2 => ?_)
     clear hK K; try clear hb
     try go_frame
     refine tv 3 14 rfl rfl ?_
     try go_frame
     refine tv 4 15 rfl rfl ?_
     try go_frame
     refine tk 5 16 rfl rfl ?_ ?_ ?_
     rotate_left
     ·intro wq hSw; obtain ⟨⟨_,_,_⟩,⟨_,_,_⟩,⟨_,_,_⟩,⟨_,_,_⟩,⟨_,_,_⟩,⟨_,_,_⟩,_⟩ := hSw.2; go_simp; (try with_reducible rfl)
     try go_frame
     refine tk 7 18 rfl rfl ?_ ?_ ?_
     rotate_left
     ·intro wq hSw; obtain ⟨⟨_,_,_⟩,⟨_,_,_⟩,⟨_,_,_⟩,⟨_,_,_⟩,⟨_,_,_⟩,⟨_,_,_⟩,_⟩ := hSw.2; go_simp; (try with_reducible rfl)
     try go_frame
     refine ty [6] ?_
     refine AllReadyH.cons rfl (fun K hK => ?_) AllReadyH.nil
     go_simp
     (first | ((with_reducible refine Calls.mono (CS.out _ _ ?_) ?_); · exact readsS_one (by simp)) | (with_reducible refine Calls.mono (LO.out _) ?_)); rintro e w5 ⟨rfl, hb⟩
     refine hK.out _ _ (hHeld2.next hb) (fun hHeld3 => ?_)
     clear hK K; try clear hb
     try go_frame
     refine tv 8 19 rfl rfl ?_
     try go_frame
     refine tv 9 20 rfl rfl ?_
     try go_frame
     refine wpAnyH_done (by kernel_rfl) ?_ _
     have hHeld := hHeld3
     obtain ⟨⟨kz0,kc0,kf0⟩,⟨kz1,kc1,kf1⟩,⟨kz2,kc2,kf2⟩,⟨kz3,kc3,kf3⟩,⟨kz4,kc4,kf4⟩,⟨kz5,kc5,kf5⟩,_⟩ := hHeld.2
     go_wp2_with fail
     refine (IB.out _).mono ?_
     rintro e w6 ⟨rfl, hb⟩
     replace hHeld := Keeps.next (hHeld) hb
     clear hb kz0 kc0 kf0 kz1 kc1 kf1 kz2 kc2 kf2 kz3 kc3 kf3 kz4 kc4 kf4 kz5 kc5 kf5
     obtain ⟨⟨kz0,kc0,kf0⟩,⟨kz1,kc1,kf1⟩,⟨kz2,kc2,kf2⟩,⟨kz3,kc3,kf3⟩,⟨kz4,kc4,kf4⟩,⟨kz5,kc5,kf5⟩,_⟩ := hHeld.2
     go_wp2_with fail
     go_ret
     exact ⟨rfl, hHeld.1⟩
    ·rw [gb] at IB
     by_cases g3 : r < 0
     ·have t3 : decide (r < 0) = true := by simpa using g3
      have e : R = .int .i64 150 := by rw [hR, if_neg (by rw [LJ]; omega)]
      clear hR LJ gb
      subst e
      go_enter Tryz.func122, Tryz.ntmps122
      go_wp2_with fail
      refine region_keeps (w0 := w) (L := [(w.heap.size, 0, .int .i64 a), (w.heap.size, 1, .int .i64 r), (w.heap.size, 2, .int .i64 x), (w.heap.size, 3, .int .i64 y), (w.heap.size + 1, 0, .int .i64 x), (w.heap.size + 1, 1, .int .i64 y)]) (by kernel_rfl) (by first | exact hHeld | (refine ⟨by go_grown, ?_⟩; simp [Cells, go_sem]; done)) (fun hHeld0 => ?_)
      refine tk 0 11 rfl rfl ?_ ?_ ?_
      rotate_left
      ·intro wq hSw; obtain ⟨⟨_,_,_⟩,⟨_,_,_⟩,⟨_,_,_⟩,⟨_,_,_⟩,⟨_,_,_⟩,⟨_,_,_⟩,_⟩ := hSw.2; go_simp; (try with_reducible rfl)
      try go_frame
      refine ty [1] ?_
      refine AllReadyH.cons rfl (fun K hK => ?_) AllReadyH.nil
      go_simp
      refine hK.out _ _ (by first | exact hHeld0.alloc _ | exact (hHeld0.alloc _).drew) (fun hHeld1 => ?_)
      clear hK K; try clear hb
      try go_frame
      refine ty [2] ?_
      refine AllReadyH.cons rfl (fun K hK => ?_) AllReadyH.nil
      go_simp
      (first | ((with_reducible refine Calls.mono (CS.out _ _ ?_) ?_); · exact readsS_one (by simp)) | (with_reducible refine Calls.mono (LO.out _) ?_)); rintro e w5 ⟨rfl, hb⟩
      refine hK.out _ _ (hHeld1.next hb) (fun hHeld2 => ?_)
      clear hK K; try clear hb
      try go_frame
      refine tv 3 14 rfl rfl ?_
      try go_frame
      refine tv 4 15 rfl rfl ?_
      try go_frame
      refine tk 5 16 rfl rfl ?_ ?_ ?_
      rotate_left
      ·intro wq hSw; obtain ⟨⟨_,_,_⟩,⟨_,_,_⟩,⟨_,_,_⟩,⟨_,_,_⟩,⟨_,_,_⟩,⟨_,_,_⟩,_⟩ := hSw.2; go_simp; (try with_reducible rfl)
      try go_frame
      refine tk 7 18 rfl rfl ?_ ?_ ?_
      rotate_left
      ·intro wq hSw; obtain ⟨⟨_,_,_⟩,⟨_,_,_⟩,⟨_,_,_⟩,⟨_,_,_⟩,⟨_,_,_⟩,⟨_,_,_⟩,_⟩ := hSw.2; go_simp; (try with_reducible rfl)
      try go_frame
      refine ty [6] ?_
      refine AllReadyH.cons rfl (fun K hK => ?_) AllReadyH.nil
      go_simp
      (first | ((with_reducible refine Calls.mono (CS.out _ _ ?_) ?_); · exact readsS_one (by simp)) | (with_reducible refine Calls.mono (LO.out _) ?_)); rintro e w5 ⟨rfl, hb⟩
      refine hK.out _ _ (hHeld2.next hb) (fun hHeld3 => ?_)
      clear hK K; try clear hb
      try go_frame
      refine tv 8 19 rfl rfl ?_
      try go_frame
      refine tv 9 20 rfl rfl ?_
      try go_frame
      refine wpAnyH_done (by kernel_rfl) ?_ _
      have hHeld := hHeld3
      obtain ⟨⟨kz0,kc0,kf0⟩,⟨kz1,kc1,kf1⟩,⟨kz2,kc2,kf2⟩,⟨kz3,kc3,kf3⟩,⟨kz4,kc4,kf4⟩,⟨kz5,kc5,kf5⟩,_⟩ := hHeld.2
      go_wp2_with fail
      refine (IB.out _).mono ?_
      rintro e w6 ⟨rfl, hb⟩
      replace hHeld := Keeps.next (hHeld) hb
      clear hb kz0 kc0 kf0 kz1 kc1 kf1 kz2 kc2 kf2 kz3 kc3 kf3 kz4 kc4 kf4 kz5 kc5 kf5
      obtain ⟨⟨kz0,kc0,kf0⟩,⟨kz1,kc1,kf1⟩,⟨kz2,kc2,kf2⟩,⟨kz3,kc3,kf3⟩,⟨kz4,kc4,kf4⟩,⟨kz5,kc5,kf5⟩,_⟩ := hHeld.2
      go_wp2_with fail
      go_ret
      exact ⟨rfl, hHeld.1⟩
     ·have t3 : decide (r < 0) = false := by simpa using g3
      by_cases g4 : y ≤ r
      ·have t4 : decide (y ≤ r) = true := by simpa using g4
       have e : R = .int .i64 150 := by rw [hR, if_neg (by rw [LJ]; omega)]
       clear hR LJ gb
       subst e
       go_enter Tryz.func122, Tryz.ntmps122
       go_wp2_with fail
       refine region_keeps (w0 := w) (L := [(w.heap.size, 0, .int .i64 a), (w.heap.size, 1, .int .i64 r), (w.heap.size, 2, .int .i64 x), (w.heap.size, 3, .int .i64 y), (w.heap.size + 1, 0, .int .i64 x), (w.heap.size + 1, 1, .int .i64 y)]) (by kernel_rfl) (by first | exact hHeld | (refine ⟨by go_grown, ?_⟩; simp [Cells, go_sem]; done)) (fun hHeld0 => ?_)
       refine tk 0 11 rfl rfl ?_ ?_ ?_
       rotate_left
       ·intro wq hSw; obtain ⟨⟨_,_,_⟩,⟨_,_,_⟩,⟨_,_,_⟩,⟨_,_,_⟩,⟨_,_,_⟩,⟨_,_,_⟩,_⟩ := hSw.2; go_simp; (try with_reducible rfl)
       try go_frame
       refine ty [1] ?_
       refine AllReadyH.cons rfl (fun K hK => ?_) AllReadyH.nil
       go_simp
       refine hK.out _ _ (by first | exact hHeld0.alloc _ | exact (hHeld0.alloc _).drew) (fun hHeld1 => ?_)
       clear hK K; try clear hb
       try go_frame
       refine ty [2] ?_
       refine AllReadyH.cons rfl (fun K hK => ?_) AllReadyH.nil
       go_simp
       (first | ((with_reducible refine Calls.mono (CS.out _ _ ?_) ?_); · exact readsS_one (by simp)) | (with_reducible refine Calls.mono (LO.out _) ?_)); rintro e w5 ⟨rfl, hb⟩
       refine hK.out _ _ (hHeld1.next hb) (fun hHeld2 => ?_)
       clear hK K; try clear hb
       try go_frame
       refine tv 3 14 rfl rfl ?_
       try go_frame
       refine tv 4 15 rfl rfl ?_
       try go_frame
       refine tk 5 16 rfl rfl ?_ ?_ ?_
       rotate_left
       ·intro wq hSw; obtain ⟨⟨_,_,_⟩,⟨_,_,_⟩,⟨_,_,_⟩,⟨_,_,_⟩,⟨_,_,_⟩,⟨_,_,_⟩,_⟩ := hSw.2; go_simp; (try with_reducible rfl)
       try go_frame
       refine tk 7 18 rfl rfl ?_ ?_ ?_
       rotate_left
       ·intro wq hSw; obtain ⟨⟨_,_,_⟩,⟨_,_,_⟩,⟨_,_,_⟩,⟨_,_,_⟩,⟨_,_,_⟩,⟨_,_,_⟩,_⟩ := hSw.2; go_simp; (try with_reducible rfl)
       try go_frame
       refine ty [6] ?_
       refine AllReadyH.cons rfl (fun K hK => ?_) AllReadyH.nil
       go_simp
       (first | ((with_reducible refine Calls.mono (CS.out _ _ ?_) ?_); · exact readsS_one (by simp)) | (with_reducible refine Calls.mono (LO.out _) ?_)); rintro e w5 ⟨rfl, hb⟩
       refine hK.out _ _ (hHeld2.next hb) (fun hHeld3 => ?_)
       clear hK K; try clear hb
       try go_frame
       refine tv 8 19 rfl rfl ?_
       try go_frame
       refine tv 9 20 rfl rfl ?_
       try go_frame
       refine wpAnyH_done (by kernel_rfl) ?_ _
       have hHeld := hHeld3
       obtain ⟨⟨kz0,kc0,kf0⟩,⟨kz1,kc1,kf1⟩,⟨kz2,kc2,kf2⟩,⟨kz3,kc3,kf3⟩,⟨kz4,kc4,kf4⟩,⟨kz5,kc5,kf5⟩,_⟩ := hHeld.2
       go_wp2_with fail
       refine (IB.out _).mono ?_
       rintro e w6 ⟨rfl, hb⟩
       replace hHeld := Keeps.next (hHeld) hb
       clear hb kz0 kc0 kf0 kz1 kc1 kf1 kz2 kc2 kf2 kz3 kc3 kf3 kz4 kc4 kf4 kz5 kc5 kf5
       obtain ⟨⟨kz0,kc0,kf0⟩,⟨kz1,kc1,kf1⟩,⟨kz2,kc2,kf2⟩,⟨kz3,kc3,kf3⟩,⟨kz4,kc4,kf4⟩,⟨kz5,kc5,kf5⟩,_⟩ := hHeld.2
       go_wp2_with fail
       go_ret
       exact ⟨rfl, hHeld.1⟩
      ·have t4 : decide (y ≤ r) = false := by simpa using g4
       have e : R = .int .i64 0 := by rw [hR, if_pos (by rw [LJ]; exact ⟨gb, by omega, by omega⟩)]
       clear hR LJ gb
       subst e
       go_enter Tryz.func122, Tryz.ntmps122
       go_wp2_with fail
       refine region_keeps (w0 := w) (L := [(w.heap.size, 0, .int .i64 a), (w.heap.size, 1, .int .i64 r), (w.heap.size, 2, .int .i64 x), (w.heap.size, 3, .int .i64 y), (w.heap.size + 1, 0, .int .i64 x), (w.heap.size + 1, 1, .int .i64 y)]) (by kernel_rfl) (by first | exact hHeld | (refine ⟨by go_grown, ?_⟩; simp [Cells, go_sem]; done)) (fun hHeld0 => ?_)
       refine tk 0 11 rfl rfl ?_ ?_ ?_
       rotate_left
       ·intro wq hSw; obtain ⟨⟨_,_,_⟩,⟨_,_,_⟩,⟨_,_,_⟩,⟨_,_,_⟩,⟨_,_,_⟩,⟨_,_,_⟩,_⟩ := hSw.2; go_simp; (try with_reducible rfl)
       try go_frame
       refine ty [1] ?_
       refine AllReadyH.cons rfl (fun K hK => ?_) AllReadyH.nil
       go_simp
       refine hK.out _ _ (by first | exact hHeld0.alloc _ | exact (hHeld0.alloc _).drew) (fun hHeld1 => ?_)
       clear hK K; try clear hb
       try go_frame
       refine ty [2] ?_
       refine AllReadyH.cons rfl (fun K hK => ?_) AllReadyH.nil
       go_simp
       (first | ((with_reducible refine Calls.mono (CS.out _ _ ?_) ?_); · exact readsS_one (by simp)) | (with_reducible refine Calls.mono (LO.out _) ?_)); rintro e w5 ⟨rfl, hb⟩
       refine hK.out _ _ (hHeld1.next hb) (fun hHeld2 => ?_)
       clear hK K; try clear hb
       try go_frame
       refine tv 3 14 rfl rfl ?_
       try go_frame
       refine tv 4 15 rfl rfl ?_
       try go_frame
       refine tk 5 16 rfl rfl ?_ ?_ ?_
       rotate_left
       ·intro wq hSw; obtain ⟨⟨_,_,_⟩,⟨_,_,_⟩,⟨_,_,_⟩,⟨_,_,_⟩,⟨_,_,_⟩,⟨_,_,_⟩,_⟩ := hSw.2; go_simp; (try with_reducible rfl)
       try go_frame
       refine tk 7 18 rfl rfl ?_ ?_ ?_
       rotate_left
       ·intro wq hSw; obtain ⟨⟨_,_,_⟩,⟨_,_,_⟩,⟨_,_,_⟩,⟨_,_,_⟩,⟨_,_,_⟩,⟨_,_,_⟩,_⟩ := hSw.2; go_simp; (try with_reducible rfl)
       try go_frame
       refine ty [6] ?_
       refine AllReadyH.cons rfl (fun K hK => ?_) AllReadyH.nil
       go_simp
       (first | ((with_reducible refine Calls.mono (CS.out _ _ ?_) ?_); · exact readsS_one (by simp)) | (with_reducible refine Calls.mono (LO.out _) ?_)); rintro e w5 ⟨rfl, hb⟩
       refine hK.out _ _ (hHeld2.next hb) (fun hHeld3 => ?_)
       clear hK K; try clear hb
       try go_frame
       refine tv 8 19 rfl rfl ?_
       try go_frame
       refine tv 9 20 rfl rfl ?_
       try go_frame
       refine wpAnyH_done (by kernel_rfl) ?_ _
       have hHeld := hHeld3
       obtain ⟨⟨kz0,kc0,kf0⟩,⟨kz1,kc1,kf1⟩,⟨kz2,kc2,kf2⟩,⟨kz3,kc3,kf3⟩,⟨kz4,kc4,kf4⟩,⟨kz5,kc5,kf5⟩,_⟩ := hHeld.2
       go_wp2_with fail
       refine (IB.out _).mono ?_
       rintro e w6 ⟨rfl, hb⟩
       replace hHeld := Keeps.next (hHeld) hb
       clear hb kz0 kc0 kf0 kz1 kc1 kf1 kz2 kc2 kf2 kz3 kc3 kf3 kz4 kc4 kf4 kz5 kc5 kf5
       obtain ⟨⟨kz0,kc0,kf0⟩,⟨kz1,kc1,kf1⟩,⟨kz2,kc2,kf2⟩,⟨kz3,kc3,kf3⟩,⟨kz4,kc4,kf4⟩,⟨kz5,kc5,kf5⟩,_⟩ := hHeld.2
       go_wp2_with fail
       go_ret
       exact ⟨rfl, hHeld.1⟩
   ·have t2 : (y == d) = false := by simpa using g2
    have e : R = .int .i64 150 := by rw [hR, if_neg (by rw [LI]; simp [g2])]
    clear hR LI gs IB
    subst e
    subst g1
    go_enter Tryz.func122, Tryz.ntmps122
    go_wp2_with fail
    refine region_keeps (w0 := w) (L := [(w.heap.size, 0, .int .i64 a), (w.heap.size, 1, .int .i64 r), (w.heap.size, 2, .int .i64 x), (w.heap.size, 3, .int .i64 d), (w.heap.size + 1, 0, .int .i64 x), (w.heap.size + 1, 1, .int .i64 d)]) (by kernel_rfl) (by first | exact hHeld | (refine ⟨by go_grown, ?_⟩; simp [Cells, go_sem]; done)) (fun hHeld0 => ?_)
    refine tk 0 11 rfl rfl ?_ ?_ ?_
    rotate_left
    ·intro wq hSw; obtain ⟨⟨_,_,_⟩,⟨_,_,_⟩,⟨_,_,_⟩,⟨_,_,_⟩,⟨_,_,_⟩,⟨_,_,_⟩,_⟩ := hSw.2; go_simp; (try with_reducible rfl)
    try go_frame
    refine ty [1] ?_
    refine AllReadyH.cons rfl (fun K hK => ?_) AllReadyH.nil
    go_simp
    refine hK.out _ _ (by first | exact hHeld0.alloc _ | exact (hHeld0.alloc _).drew) (fun hHeld1 => ?_)
    clear hK K; try clear hb
    try go_frame
    refine ty [2] ?_
    refine AllReadyH.cons rfl (fun K hK => ?_) AllReadyH.nil
    go_simp
    (first | ((with_reducible refine Calls.mono (CS.out _ _ ?_) ?_); · exact readsS_one (by simp)) | (with_reducible refine Calls.mono (LO.out _) ?_)); rintro e w5 ⟨rfl, hb⟩
    refine hK.out _ _ (hHeld1.next hb) (fun hHeld2 => ?_)
    clear hK K; try clear hb
    try go_frame
    refine tv 3 14 rfl rfl ?_
    try go_frame
    refine tv 4 15 rfl rfl ?_
    try go_frame
    refine tk 5 16 rfl rfl ?_ ?_ ?_
    rotate_left
    ·intro wq hSw; obtain ⟨⟨_,_,_⟩,⟨_,_,_⟩,⟨_,_,_⟩,⟨_,_,_⟩,⟨_,_,_⟩,⟨_,_,_⟩,_⟩ := hSw.2; go_simp; (try with_reducible rfl)
    try go_frame
    refine tk 7 18 rfl rfl ?_ ?_ ?_
    rotate_left
    ·intro wq hSw; obtain ⟨⟨_,_,_⟩,⟨_,_,_⟩,⟨_,_,_⟩,⟨_,_,_⟩,⟨_,_,_⟩,⟨_,_,_⟩,_⟩ := hSw.2; go_simp; (try with_reducible rfl)
    try go_frame
    refine ty [6] ?_
    refine AllReadyH.cons rfl (fun K hK => ?_) AllReadyH.nil
    go_simp
    (first | ((with_reducible refine Calls.mono (CS.out _ _ ?_) ?_); · exact readsS_one (by simp)) | (with_reducible refine Calls.mono (LO.out _) ?_)); rintro e w5 ⟨rfl, hb⟩
    refine hK.out _ _ (hHeld2.next hb) (fun hHeld3 => ?_)
    clear hK K; try clear hb
    try go_frame
    refine tv 8 19 rfl rfl ?_
    try go_frame
    refine tv 9 20 rfl rfl ?_
    try go_frame
    refine wpAnyH_done (by kernel_rfl) ?_ _
    have hHeld := hHeld3
    obtain ⟨⟨kz0,kc0,kf0⟩,⟨kz1,kc1,kf1⟩,⟨kz2,kc2,kf2⟩,⟨kz3,kc3,kf3⟩,⟨kz4,kc4,kf4⟩,⟨kz5,kc5,kf5⟩,_⟩ := hHeld.2
    go_wp2_with fail
    go_ret
    exact ⟨rfl, hHeld.1⟩
  ·have t1 : (x == n) = false := by simpa using g1
   have e : R = .int .i64 150 := by rw [hR, if_neg (by rw [LI]; simp [g1])]
   clear hR LI gs IB
   subst e
   go_enter Tryz.func122, Tryz.ntmps122
   go_wp2_with fail
   refine region_keeps (w0 := w) (L := [(w.heap.size, 0, .int .i64 a), (w.heap.size, 1, .int .i64 r), (w.heap.size, 2, .int .i64 n), (w.heap.size, 3, .int .i64 d), (w.heap.size + 1, 0, .int .i64 n), (w.heap.size + 1, 1, .int .i64 d)]) (by kernel_rfl) (by first | exact hHeld | (refine ⟨by go_grown, ?_⟩; simp [Cells, go_sem]; done)) (fun hHeld0 => ?_)
   refine tk 0 11 rfl rfl ?_ ?_ ?_
   rotate_left
   ·intro wq hSw; obtain ⟨⟨_,_,_⟩,⟨_,_,_⟩,⟨_,_,_⟩,⟨_,_,_⟩,⟨_,_,_⟩,⟨_,_,_⟩,_⟩ := hSw.2; go_simp; (try with_reducible rfl)
   try go_frame
   refine ty [1] ?_
   refine AllReadyH.cons rfl (fun K hK => ?_) AllReadyH.nil
   go_simp
   refine hK.out _ _ (by first | exact hHeld0.alloc _ | exact (hHeld0.alloc _).drew) (fun hHeld1 => ?_)
   clear hK K; try clear hb
   try go_frame
   refine ty [2] ?_
   refine AllReadyH.cons rfl (fun K hK => ?_) AllReadyH.nil
   go_simp
   (first | ((with_reducible refine Calls.mono (CS.out _ _ ?_) ?_); · exact readsS_one (by simp)) | (with_reducible refine Calls.mono (LO.out _) ?_)); rintro e w5 ⟨rfl, hb⟩
   refine hK.out _ _ (hHeld1.next hb) (fun hHeld2 => ?_)
   clear hK K; try clear hb
   try go_frame
   refine tv 3 14 rfl rfl ?_
   try go_frame
   refine tv 4 15 rfl rfl ?_
   try go_frame
   refine tk 5 16 rfl rfl ?_ ?_ ?_
   rotate_left
   ·intro wq hSw; obtain ⟨⟨_,_,_⟩,⟨_,_,_⟩,⟨_,_,_⟩,⟨_,_,_⟩,⟨_,_,_⟩,⟨_,_,_⟩,_⟩ := hSw.2; go_simp; (try with_reducible rfl)
   try go_frame
   refine tk 7 18 rfl rfl ?_ ?_ ?_
   rotate_left
   ·intro wq hSw; obtain ⟨⟨_,_,_⟩,⟨_,_,_⟩,⟨_,_,_⟩,⟨_,_,_⟩,⟨_,_,_⟩,⟨_,_,_⟩,_⟩ := hSw.2; go_simp; (try with_reducible rfl)
   try go_frame
   refine ty [6] ?_
   refine AllReadyH.cons rfl (fun K hK => ?_) AllReadyH.nil
   go_simp
   (first | ((with_reducible refine Calls.mono (CS.out _ _ ?_) ?_); · exact readsS_one (by simp)) | (with_reducible refine Calls.mono (LO.out _) ?_)); rintro e w5 ⟨rfl, hb⟩
   refine hK.out _ _ (hHeld2.next hb) (fun hHeld3 => ?_)
   clear hK K; try clear hb
   try go_frame
   refine tv 8 19 rfl rfl ?_
   try go_frame
   refine tv 9 20 rfl rfl ?_
   try go_frame
   refine wpAnyH_done (by kernel_rfl) ?_ _
   have hHeld := hHeld3
   obtain ⟨⟨kz0,kc0,kf0⟩,⟨kz1,kc1,kf1⟩,⟨kz2,kc2,kf2⟩,⟨kz3,kc3,kf3⟩,⟨kz4,kc4,kf4⟩,⟨kz5,kc5,kf5⟩,_⟩ := hHeld.2
   go_wp2_with fail
   go_ret
   exact ⟨rfl, hHeld.1⟩
 ·have e : badL [(n, d)] = true := by simpa [badL] using gs
  rw [e, if_pos rfl] at CS
  replace CS := Lib.hid CS
  have e : R = .int .i64 150 := by rw [hR, if_neg (by rw [LI]; simp [gs])]
  clear hR LI gs IB LO
  subst e
  go_enter Tryz.func122, Tryz.ntmps122
  go_wp2_with fail
  refine region_keeps (w0 := w) (L := [(w.heap.size, 0, .int .i64 a), (w.heap.size, 1, .int .i64 r), (w.heap.size, 2, .int .i64 n), (w.heap.size, 3, .int .i64 d), (w.heap.size + 1, 0, .int .i64 n), (w.heap.size + 1, 1, .int .i64 d)]) (by kernel_rfl) (by first | exact hHeld | (refine ⟨by go_grown, ?_⟩; simp [Cells, go_sem]; done)) (fun hHeld0 => ?_)
  refine tk 0 11 rfl rfl ?_ ?_ ?_
  rotate_left
  ·intro wq hSw; obtain ⟨⟨_,_,_⟩,⟨_,_,_⟩,⟨_,_,_⟩,⟨_,_,_⟩,⟨_,_,_⟩,⟨_,_,_⟩,_⟩ := hSw.2; go_simp; (try with_reducible rfl)
  try go_frame
  refine ty [1] ?_
  refine AllReadyH.cons rfl (fun K hK => ?_) AllReadyH.nil
  go_simp
  refine hK.out _ _ (by first | exact hHeld0.alloc _ | exact (hHeld0.alloc _).drew) (fun hHeld1 => ?_)
  clear hK K; try clear hb
  try go_frame
  refine ty [2] ?_
  refine AllReadyH.cons rfl (fun K hK => ?_) AllReadyH.nil
  go_simp
  (first | ((with_reducible refine Calls.mono (CS.out _ _ ?_) ?_); · exact readsS_one (by simp)) | (with_reducible refine Calls.mono (LO.out _) ?_)); rintro e w5 ⟨rfl, hb⟩
  refine hK.out _ _ (hHeld1.next hb) (fun hHeld2 => ?_)
  clear hK K; try clear hb
  try go_frame
  refine tv 3 14 rfl rfl ?_
  try go_frame
  refine tv 4 15 rfl rfl ?_
  try go_frame
  refine tu 5 16 rfl rfl ?_
  try go_frame
  refine tu 6 17 rfl rfl ?_
  try go_frame
  refine tu 7 18 rfl rfl ?_
  try go_frame
  refine tu 8 19 rfl rfl ?_
  try go_frame
  refine tv 9 20 rfl rfl ?_
  try go_frame
  refine wpAnyH_done (by kernel_rfl) ?_ _
  have hHeld := hHeld2
  obtain ⟨⟨kz0,kc0,kf0⟩,⟨kz1,kc1,kf1⟩,⟨kz2,kc2,kf2⟩,⟨kz3,kc3,kf3⟩,⟨kz4,kc4,kf4⟩,⟨kz5,kc5,kf5⟩,_⟩ := hHeld.2
  go_wp2_with fail
  go_ret
  exact ⟨rfl, hHeld.1⟩
theorem lcheck_any (a r n d : Int) (w : World) : Calls Tryz.prog 68 #[lnV a r n d] w (Ret w (.int .i64 (if lineB a r n d then 0 else 150))) := by
 have AC := fun W => acheck_any a r n d W
 generalize (if lineB a r n d then (0 : Int) else 150) = R at *
 replace AC := Lib.hid AC
 go_enter Tryz.func68, Tryz.ntmps68
 go_wp2_with fail
 refine (AC.out _).mono ?_
 rintro e w1 ⟨rfl, hb⟩
 go_wp2_with fail
 go_ret
 exact ⟨rfl, under (below_alloc _ _) hb⟩
end Go.Proofs.YtcfidimnbamnkaaGreat

/-
 Layer 5: a line's exact values, times D; what is over D; its values. Conditions: those written at each fact.
-/
namespace Go.Proofs.YtcfidimnbamnkaaGreat
open Go.RowKit

def exV (a r n d t : Int) : Int := a * d + n * t + r
theorem mul_bound {x y X Y : Int} (hx : -X ≤ x ∧ x ≤ X) (hy : 0 ≤ y ∧ y ≤ Y) : -(X * Y) ≤ x * y ∧ x * y ≤ X * Y := by
 have hX : 0 ≤ X := by omega
 have a1 : x * y ≤ X * y := Int.mul_le_mul_of_nonneg_right hx.2 hy.1
 have a2 : X * y ≤ X * Y := Int.mul_le_mul_of_nonneg_left hy.2 hX
 have a3 : (-X) * y ≤ x * y := Int.mul_le_mul_of_nonneg_right hx.1 hy.1
 rw [Int.neg_mul] at a3
 omega
theorem ex_bounds {a r n d t : Int} (h : lineB a r n d = true) (ht : timeB t = true) :
  I64 a ∧ I64 n ∧ I64 d ∧ I64 t ∧ I64 r ∧ 1 ≤ d ∧ d ≤ 281474976710656 ∧
  (-(2305844108725321728 * 281474976710656) ≤ a * d ∧ a * d ≤ 2305844108725321728 * 281474976710656) ∧ (-(4611688217450643456 * 281474976710656) ≤ n * t ∧ n * t ≤ 4611688217450643456 * 281474976710656) ∧ 0 ≤ r ∧ r < 281474976710656 := by
 obtain ⟨h1, _, h3, h4, h5⟩ := (lineB_iff _ _ _ _).1 h
 have s := (slopeB_iff _ _).1 h1
 have b := (backB_iff _).1 h3
 have c := (timeB_iff _).1 ht
 have m1 := mul_bound (x := a) (y := d) (X := 2305844108725321728) (Y := 281474976710656) b ⟨by omega, s.2.2.2⟩
 have m2 := mul_bound (x := n) (y := t) (X := 4611688217450643456) (Y := 281474976710656) ⟨s.1, s.2.1⟩ c
 unfold I64
 refine ⟨by omega, by omega, by omega, by omega, by omega, by omega, by omega, m1, m2, by omega, by omega⟩
theorem ex_fits {a r n d t : Int} (h : lineB a r n d = true) (ht : timeB t = true) :
  Fits (a * d) ∧ Fits (a * d + n * t) ∧ Fits (exV a r n d t) ∧ Fits (n * t) ∧ Fits r := by
 obtain ⟨_, _, _, _, _, _, _, m1, m2, r0, r1⟩ := ex_bounds h ht
 unfold exV Fits
 generalize a * d = p at *
 generalize n * t = q at *
 omega
theorem tot_three {x y z : Int} (fx : Fits x) (fy : Fits y) (fz : Fits z) (f2 : Fits (x + y)) (f3 : Fits (x + y + z)) :
  totV (tot 0 [(rhi x, rlo x), (rhi y, rlo y), (rhi z, rlo z)]) = .tuple #[wz (x + y + z), .int .i64 0] := by
 simp only [tot, val_r fx, val_r fy, val_r fz, Int.zero_add, if_pos fx, if_pos f2, if_pos f3]
 rfl
theorem total_three (b : Nat) (x y z : Int) (fx : Fits x) (fy : Fits y) (fz : Fits z) (f2 : Fits (x + y)) (f3 : Fits (x + y + z)) (w : World) (hb : b < w.heap.size)
  (c0 : w.cell? ⟨b, 0, none⟩ = some (.int .i64 (rhi x))) (c1 : w.cell? ⟨b, 1, none⟩ = some (.int .u64 (rlo x))) (c2 : w.cell? ⟨b, 2, none⟩ = some (.int .i64 (rhi y))) (c3 : w.cell? ⟨b, 3, none⟩ = some (.int .u64 (rlo y)))
  (c4 : w.cell? ⟨b, 4, none⟩ = some (.int .i64 (rhi z))) (c5 : w.cell? ⟨b, 5, none⟩ = some (.int .u64 (rlo z))) :
  Calls Tryz.prog 92 #[.slice (some ⟨b, 0, none⟩) 3 3] w (Ret w (.tuple #[wz (x + y + z), .int .i64 0])) := by
 rw [← tot_three fx fy fz f2 f3]
 refine total_walk b 0 3 [(rhi x, rlo x), (rhi y, rlo y), (rhi z, rlo z)] ?_ (by simp) w hb ?_
 ·intro u hu
  simp only [List.mem_cons, List.not_mem_nil, or_false] at hu
  rcases hu with rfl | rfl | rfl
  ·exact ⟨rhi_i64 _, rlo_u64 _⟩
  ·exact ⟨rhi_i64 _, rlo_u64 _⟩
  ·exact ⟨rhi_i64 _, rlo_u64 _⟩
 ·intro i hi
  match i, hi with
  | 0, _ => exact ⟨c0, c1⟩
  | 1, _ => exact ⟨c2, c3⟩
  | 2, _ => exact ⟨c4, c5⟩
set_option maxRecDepth 100000 in
set_option maxHeartbeats 2000000 in
theorem timesD_any (a r n d t : Int) (h : lineB a r n d = true) (ht : timeB t = true) (w : World) :
  Calls Tryz.prog 239 #[lnV a r n d, .int .i64 t] w (Ret w (wz (exV a r n d t))) := by
 obtain ⟨f1, f2, f3, f4, f5⟩ := ex_fits h ht
 obtain ⟨i1, i2, i3, i4, i5, _⟩ := ex_bounds h ht
 have M1 := Lib.hid (fun W => mul_any a d i1 i3 W)
 have M2 := Lib.hid (fun W => mul_any n t i2 i4 W)
 have OF := Lib.hid (fun W => of_any r i5 W)
 have TT := fun b W => total_three b (a * d) (n * t) r f1 f4 f5 f2 (by unfold exV at f3; exact f3) W
 clear h ht f1 f2 f3 f4 f5 i1 i2 i3 i4 i5
 unfold exV
 generalize a * d = x at *
 generalize n * t = y at *
 generalize x + y + r = z at *
 simp only [wz] at TT ⊢
 replace TT := Lib.hid TT
 generalize rhi x = x0 at *
 generalize rlo x = x1 at *
 generalize rhi y = y0 at *
 generalize rlo y = y1 at *
 generalize rhi r = r0 at *
 generalize rlo r = r1 at *
 generalize rhi z = z0 at *
 generalize rlo z = z1 at *
 go_enter Tryz.func239, Tryz.ntmps239
 go_upto_region 1 with fail
 go_cut [5] (fun s5 wx => ∃ g : Nat, s5 = .pointer (some ⟨g, 0, none⟩) ∧ wx.cell? ⟨g, 0, none⟩ = some (.int .i64 z0) ∧ wx.cell? ⟨g, 1, none⟩ = some (.int .u64 z1) ∧ Keeps w [(w.heap.size + 1, 0, .int .i64 0), (w.heap.size + 1, 1, .int .u64 0)] wx)
 case first =>
  refine region_keeps (w0 := w) (L := [(w.heap.size, 0, .int .i64 a), (w.heap.size, 1, .int .i64 r), (w.heap.size, 2, .int .i64 n), (w.heap.size, 3, .int .i64 d), (w.heap.size + 1, 0, .int .i64 0), (w.heap.size + 1, 1, .int .u64 0)]) (by kernel_rfl) (by first | exact hHeld | (refine ⟨by go_grown, ?_⟩; simp [Cells, go_sem]; done)) (fun hHeld0 => ?_)
  refine tv 0 8 rfl rfl ?_
  try go_frame
  refine tv 1 9 rfl rfl ?_
  try go_frame
  refine tk 2 10 rfl rfl ?_ ?_ ?_
  rotate_left
  ·intro wq hSw; obtain ⟨⟨_,_,_⟩,⟨_,_,_⟩,⟨_,_,_⟩,⟨_,_,_⟩,⟨_,_,_⟩,⟨_,_,_⟩,_⟩ := hSw.2; go_simp; (try with_reducible rfl)
  try go_frame
  refine tv 3 11 rfl rfl ?_
  try go_frame
  refine tv 4 12 rfl rfl ?_
  try go_frame
  refine tk 5 13 rfl rfl ?_ ?_ ?_
  rotate_left
  ·intro wq hSw; obtain ⟨⟨_,_,_⟩,⟨_,_,_⟩,⟨_,_,_⟩,⟨_,_,_⟩,⟨_,_,_⟩,⟨_,_,_⟩,_⟩ := hSw.2; go_simp; (try with_reducible rfl)
  try go_frame
  refine tv 7 15 rfl rfl ?_
  try go_frame
  refine tv 8 16 rfl rfl ?_
  try go_frame
  refine tk 9 17 rfl rfl ?_ ?_ ?_
  rotate_left
  ·intro wq hSw; obtain ⟨⟨_,_,_⟩,⟨_,_,_⟩,⟨_,_,_⟩,⟨_,_,_⟩,⟨_,_,_⟩,⟨_,_,_⟩,_⟩ := hSw.2; go_simp; (try with_reducible rfl)
  try go_frame
  refine tv 10 18 rfl rfl ?_
  try go_frame
  refine tv 12 20 rfl rfl ?_
  try go_frame
  refine tv 13 21 rfl rfl ?_
  try go_frame
  refine tk 14 22 rfl rfl ?_ ?_ ?_
  rotate_left
  ·intro wq hSw; obtain ⟨⟨_,_,_⟩,⟨_,_,_⟩,⟨_,_,_⟩,⟨_,_,_⟩,⟨_,_,_⟩,⟨_,_,_⟩,_⟩ := hSw.2; go_simp; (try with_reducible rfl)
  try go_frame
  refine ty [6, 21] ?_
  refine AllReadyH.cons rfl (fun K hK => ?_) ?_
  go_simp
  (first | (with_reducible refine Calls.mono (M1.out _) ?_) | (with_reducible refine Calls.mono (M2.out _) ?_) | (with_reducible refine Calls.mono (OF.out _) ?_) | ((with_reducible refine Calls.mono (TT.out _ _ ?_ ?_ ?_ ?_ ?_ ?_ ?_) ?_) <;> first | (simp; done) | (simp [go_sem]; done) | skip)); rintro e w5 ⟨rfl, hb⟩
  refine hK.out _ _ (hHeld0.next hb) (fun hHeld1 => ?_)
  clear hK K; try clear hb
  try go_frame
  refine ty [11, 21] ?_
  refine AllReadyH.cons rfl (fun K hK => ?_) ?_
  go_simp
  (first | (with_reducible refine Calls.mono (M1.out _) ?_) | (with_reducible refine Calls.mono (M2.out _) ?_) | (with_reducible refine Calls.mono (OF.out _) ?_) | ((with_reducible refine Calls.mono (TT.out _ _ ?_ ?_ ?_ ?_ ?_ ?_ ?_) ?_) <;> first | (simp; done) | (simp [go_sem]; done) | skip)); rintro e w5 ⟨rfl, hb⟩
  refine hK.out _ _ (hHeld1.next hb) (fun hHeld2 => ?_)
  clear hK K; try clear hb
  try go_frame
  refine ty [15, 21] ?_
  refine AllReadyH.cons rfl (fun K hK => ?_) ?_
  go_simp
  (first | (with_reducible refine Calls.mono (M1.out _) ?_) | (with_reducible refine Calls.mono (M2.out _) ?_) | (with_reducible refine Calls.mono (OF.out _) ?_) | ((with_reducible refine Calls.mono (TT.out _ _ ?_ ?_ ?_ ?_ ?_ ?_ ?_) ?_) <;> first | (simp; done) | (simp [go_sem]; done) | skip)); rintro e w5 ⟨rfl, hb⟩
  refine hK.out _ _ (hHeld2.next hb) (fun hHeld3 => ?_)
  clear hK K; try clear hb
  try go_frame
  refine ty [16, 21] ?_
  refine AllReadyH.cons rfl (fun K hK => ?_) ?_
  go_simp
  refine hK.out _ _ (by first | exact hHeld3.alloc _ | exact (hHeld3.alloc _).drew) (fun hHeld4 => ?_)
  clear hK K; try clear hb
  try go_frame
  refine ty [17, 21] ?_
  refine AllReadyH.cons rfl (fun K hK => ?_) ?_
  go_simp
  (first | (with_reducible refine Calls.mono (M1.out _) ?_) | (with_reducible refine Calls.mono (M2.out _) ?_) | (with_reducible refine Calls.mono (OF.out _) ?_) | ((with_reducible refine Calls.mono (TT.out _ _ ?_ ?_ ?_ ?_ ?_ ?_ ?_) ?_) <;> first | (simp; done) | (simp [go_sem]; done) | skip)); rintro e w5 ⟨rfl, hb⟩
  refine hK.out _ _ (hHeld4.next hb) (fun hHeld5 => ?_)
  clear hK K; try clear hb
  try go_frame
  refine tv 18 7 rfl rfl ?_
  try go_frame
  refine tv 19 26 rfl rfl ?_
  try go_frame
  refine tv 20 27 rfl rfl ?_
  try go_frame
  refine ty [21] ?_
  refine AllReadyH.cons rfl (fun K hK => ?_) AllReadyH.nil
  go_simp
  refine hK.out _ _ (by first | exact hHeld5.alloc _ | exact (hHeld5.alloc _).drew) (fun hHeld6 => ?_)
  first | have hN6 := newK2 hHeld6 | have hN6 := newK2d hHeld6
  clear hK K; try clear hb
  try go_frame
  refine ty [22] ?_
  refine AllReadyH.cons rfl (fun K hK => ?_) AllReadyH.nil
  have hz0 := hHeld5.1.size; obtain ⟨⟨az0,_,_⟩,⟨az1,_,_⟩,⟨az2,_,_⟩,⟨az3,_,_⟩,⟨az4,_,_⟩,⟨az5,_,_⟩,_⟩ := hHeld5.2; (try simp at hz0); (try simp at az0); (try simp at az1); (try simp at az2); (try simp at az3); (try simp at az4); (try simp at az5)
  obtain ⟨⟨t0z0, t0c0, t0f0⟩, ⟨t0z1, t0c1, t0f1⟩, _⟩ := hN6.2; (try simp at t0z0); (try simp at t0c0); (try simp at t0f0); (try simp at t0z1); (try simp at t0c1); (try simp at t0f1)
  go_simp
  refine hK.out _ _ (by first | exact hHeld5.alloc _ | (repeat (first | (with_reducible exact hHeld6) | (with_reducible exact (Keeps.undrewR hHeld6)) | (refine Keeps.set ?_ (by simp <;> omega) (by simp <;> omega) _) | (with_reducible refine Keeps.drew ?_)))) (fun hHeld7 => ?_)
  clear hK K; try clear hb
  try go_frame
  refine tv 23 6 rfl rfl ?_
  try go_frame
  refine wpAnyH_done (by kernel_rfl) ?_ _
  have hHeld := hHeld7
  obtain ⟨⟨_,kc0,_⟩,⟨_,kc1,_⟩,⟨_,_,_⟩,⟨_,_,_⟩,⟨_,_,_⟩,⟨_,_,_⟩,_⟩ := hHeld.2
  (go_wp2_with fail; go_meet; (case rel => exact ⟨_, rfl, by simp [go_sem, *], by simp [go_sem, *], hHeld.1, hHeld.2.2.2.2.2.1, hHeld.2.2.2.2.2.2.1, trivial⟩))
  refine AllReadyH.cons rfl (fun K hK => ?_) ?_
  go_simp
  refine hK.out _ _ (by first | exact hHeld4.alloc _ | exact (hHeld4.alloc _).drew) (fun hHeld8 => ?_)
  first | have hN8 := newK2 hHeld8 | have hN8 := newK2d hHeld8
  clear hK K; try clear hb
  try go_frame
  refine ty [17] ?_
  refine AllReadyH.cons rfl (fun K hK => ?_) AllReadyH.nil
  go_simp
  (first | (with_reducible refine Calls.mono (M1.out _) ?_) | (with_reducible refine Calls.mono (M2.out _) ?_) | (with_reducible refine Calls.mono (OF.out _) ?_) | ((with_reducible refine Calls.mono (TT.out _ _ ?_ ?_ ?_ ?_ ?_ ?_ ?_) ?_) <;> first | (simp; done) | (simp [go_sem]; done) | skip)); rintro e w5 ⟨rfl, hb⟩
  refine hK.out _ _ (hHeld8.next hb) (fun hHeld9 => ?_)
  replace hN8 := hN8.next hb
  clear hK K; try clear hb
  try go_frame
  refine tv 18 7 rfl rfl ?_
  try go_frame
  refine tv 19 26 rfl rfl ?_
  try go_frame
  refine tv 20 27 rfl rfl ?_
  try go_frame
  refine ty [22] ?_
  refine AllReadyH.cons rfl (fun K hK => ?_) AllReadyH.nil
  have hz0 := hHeld4.1.size; obtain ⟨⟨az0,_,_⟩,⟨az1,_,_⟩,⟨az2,_,_⟩,⟨az3,_,_⟩,⟨az4,_,_⟩,⟨az5,_,_⟩,_⟩ := hHeld4.2; (try simp at hz0); (try simp at az0); (try simp at az1); (try simp at az2); (try simp at az3); (try simp at az4); (try simp at az5)
  obtain ⟨⟨t0z0, t0c0, t0f0⟩, ⟨t0z1, t0c1, t0f1⟩, _⟩ := hN8.2; (try simp at t0z0); (try simp at t0c0); (try simp at t0f0); (try simp at t0z1); (try simp at t0c1); (try simp at t0f1)
  go_simp
  refine hK.out _ _ (by first | exact hHeld4.alloc _ | (repeat (first | (with_reducible exact hHeld9) | (with_reducible exact (Keeps.undrewR hHeld9)) | (refine Keeps.set ?_ (by simp <;> omega) (by simp <;> omega) _) | (with_reducible refine Keeps.drew ?_)))) (fun hHeld10 => ?_)
  clear hK K; try clear hb
  try go_frame
  refine tv 23 6 rfl rfl ?_
  try go_frame
  refine wpAnyH_done (by kernel_rfl) ?_ _
  have hHeld := hHeld10
  obtain ⟨⟨_,kc0,_⟩,⟨_,kc1,_⟩,⟨_,_,_⟩,⟨_,_,_⟩,⟨_,_,_⟩,⟨_,_,_⟩,_⟩ := hHeld.2
  (go_wp2_with fail; go_meet; (case rel => exact ⟨_, rfl, by simp [go_sem, *], by simp [go_sem, *], hHeld.1, hHeld.2.2.2.2.2.1, hHeld.2.2.2.2.2.2.1, trivial⟩))
  exact AllReadyH.nil
  refine AllReadyH.cons rfl (fun K hK => ?_) ?_
  go_simp
  refine hK.out _ _ (by first | exact hHeld3.alloc _ | exact (hHeld3.alloc _).drew) (fun hHeld11 => ?_)
  first | have hN11 := newK2 hHeld11 | have hN11 := newK2d hHeld11
  clear hK K; try clear hb
  try go_frame
  refine ty [16] ?_
  refine AllReadyH.cons rfl (fun K hK => ?_) AllReadyH.nil
  go_simp
  refine hK.out _ _ (by first | exact hHeld11.alloc _ | exact (hHeld11.alloc _).drew) (fun hHeld12 => ?_)
  first | replace hN11 := hN11.allocAs hHeld12 | replace hN11 := hN11.allocAsD hHeld12
  clear hK K; try clear hb
  try go_frame
  refine ty [17] ?_
  refine AllReadyH.cons rfl (fun K hK => ?_) AllReadyH.nil
  go_simp
  (first | (with_reducible refine Calls.mono (M1.out _) ?_) | (with_reducible refine Calls.mono (M2.out _) ?_) | (with_reducible refine Calls.mono (OF.out _) ?_) | ((with_reducible refine Calls.mono (TT.out _ _ ?_ ?_ ?_ ?_ ?_ ?_ ?_) ?_) <;> first | (simp; done) | (simp [go_sem]; done) | skip)); rintro e w5 ⟨rfl, hb⟩
  refine hK.out _ _ (hHeld12.next hb) (fun hHeld13 => ?_)
  replace hN11 := hN11.next hb
  clear hK K; try clear hb
  try go_frame
  refine tv 18 7 rfl rfl ?_
  try go_frame
  refine tv 19 26 rfl rfl ?_
  try go_frame
  refine tv 20 27 rfl rfl ?_
  try go_frame
  refine ty [22] ?_
  refine AllReadyH.cons rfl (fun K hK => ?_) AllReadyH.nil
  have hz0 := hHeld3.1.size; obtain ⟨⟨az0,_,_⟩,⟨az1,_,_⟩,⟨az2,_,_⟩,⟨az3,_,_⟩,⟨az4,_,_⟩,⟨az5,_,_⟩,_⟩ := hHeld3.2; (try simp at hz0); (try simp at az0); (try simp at az1); (try simp at az2); (try simp at az3); (try simp at az4); (try simp at az5)
  obtain ⟨⟨t0z0, t0c0, t0f0⟩, ⟨t0z1, t0c1, t0f1⟩, _⟩ := hN11.2; (try simp at t0z0); (try simp at t0c0); (try simp at t0f0); (try simp at t0z1); (try simp at t0c1); (try simp at t0f1)
  go_simp
  refine hK.out _ _ (by first | exact hHeld3.alloc _ | (repeat (first | (with_reducible exact hHeld13) | (with_reducible exact (Keeps.undrewR hHeld13)) | (refine Keeps.set ?_ (by simp <;> omega) (by simp <;> omega) _) | (with_reducible refine Keeps.drew ?_)))) (fun hHeld14 => ?_)
  clear hK K; try clear hb
  try go_frame
  refine tv 23 6 rfl rfl ?_
  try go_frame
  refine wpAnyH_done (by kernel_rfl) ?_ _
  have hHeld := hHeld14
  obtain ⟨⟨_,kc0,_⟩,⟨_,kc1,_⟩,⟨_,_,_⟩,⟨_,_,_⟩,⟨_,_,_⟩,⟨_,_,_⟩,_⟩ := hHeld.2
  (go_wp2_with fail; go_meet; (case rel => exact ⟨_, rfl, by simp [go_sem, *], by simp [go_sem, *], hHeld.1, hHeld.2.2.2.2.2.1, hHeld.2.2.2.2.2.2.1, trivial⟩))
  exact AllReadyH.nil
  refine AllReadyH.cons rfl (fun K hK => ?_) ?_
  go_simp
  refine hK.out _ _ (by first | exact hHeld2.alloc _ | exact (hHeld2.alloc _).drew) (fun hHeld15 => ?_)
  first | have hN15 := newK2 hHeld15 | have hN15 := newK2d hHeld15
  clear hK K; try clear hb
  try go_frame
  refine ty [15] ?_
  refine AllReadyH.cons rfl (fun K hK => ?_) AllReadyH.nil
  go_simp
  (first | (with_reducible refine Calls.mono (M1.out _) ?_) | (with_reducible refine Calls.mono (M2.out _) ?_) | (with_reducible refine Calls.mono (OF.out _) ?_) | ((with_reducible refine Calls.mono (TT.out _ _ ?_ ?_ ?_ ?_ ?_ ?_ ?_) ?_) <;> first | (simp; done) | (simp [go_sem]; done) | skip)); rintro e w5 ⟨rfl, hb⟩
  refine hK.out _ _ (hHeld15.next hb) (fun hHeld16 => ?_)
  replace hN15 := hN15.next hb
  clear hK K; try clear hb
  try go_frame
  refine ty [16] ?_
  refine AllReadyH.cons rfl (fun K hK => ?_) AllReadyH.nil
  go_simp
  refine hK.out _ _ (by first | exact hHeld16.alloc _ | exact (hHeld16.alloc _).drew) (fun hHeld17 => ?_)
  first | replace hN15 := hN15.allocAs hHeld17 | replace hN15 := hN15.allocAsD hHeld17
  clear hK K; try clear hb
  try go_frame
  refine ty [17] ?_
  refine AllReadyH.cons rfl (fun K hK => ?_) AllReadyH.nil
  go_simp
  (first | (with_reducible refine Calls.mono (M1.out _) ?_) | (with_reducible refine Calls.mono (M2.out _) ?_) | (with_reducible refine Calls.mono (OF.out _) ?_) | ((with_reducible refine Calls.mono (TT.out _ _ ?_ ?_ ?_ ?_ ?_ ?_ ?_) ?_) <;> first | (simp; done) | (simp [go_sem]; done) | skip)); rintro e w5 ⟨rfl, hb⟩
  refine hK.out _ _ (hHeld17.next hb) (fun hHeld18 => ?_)
  replace hN15 := hN15.next hb
  clear hK K; try clear hb
  try go_frame
  refine tv 18 7 rfl rfl ?_
  try go_frame
  refine tv 19 26 rfl rfl ?_
  try go_frame
  refine tv 20 27 rfl rfl ?_
  try go_frame
  refine ty [22] ?_
  refine AllReadyH.cons rfl (fun K hK => ?_) AllReadyH.nil
  have hz0 := hHeld2.1.size; obtain ⟨⟨az0,_,_⟩,⟨az1,_,_⟩,⟨az2,_,_⟩,⟨az3,_,_⟩,⟨az4,_,_⟩,⟨az5,_,_⟩,_⟩ := hHeld2.2; (try simp at hz0); (try simp at az0); (try simp at az1); (try simp at az2); (try simp at az3); (try simp at az4); (try simp at az5)
  obtain ⟨⟨t0z0, t0c0, t0f0⟩, ⟨t0z1, t0c1, t0f1⟩, _⟩ := hN15.2; (try simp at t0z0); (try simp at t0c0); (try simp at t0f0); (try simp at t0z1); (try simp at t0c1); (try simp at t0f1)
  go_simp
  refine hK.out _ _ (by first | exact hHeld2.alloc _ | (repeat (first | (with_reducible exact hHeld18) | (with_reducible exact (Keeps.undrewR hHeld18)) | (refine Keeps.set ?_ (by simp <;> omega) (by simp <;> omega) _) | (with_reducible refine Keeps.drew ?_)))) (fun hHeld19 => ?_)
  clear hK K; try clear hb
  try go_frame
  refine tv 23 6 rfl rfl ?_
  try go_frame
  refine wpAnyH_done (by kernel_rfl) ?_ _
  have hHeld := hHeld19
  obtain ⟨⟨_,kc0,_⟩,⟨_,kc1,_⟩,⟨_,_,_⟩,⟨_,_,_⟩,⟨_,_,_⟩,⟨_,_,_⟩,_⟩ := hHeld.2
  (go_wp2_with fail; go_meet; (case rel => exact ⟨_, rfl, by simp [go_sem, *], by simp [go_sem, *], hHeld.1, hHeld.2.2.2.2.2.1, hHeld.2.2.2.2.2.2.1, trivial⟩))
  exact AllReadyH.nil
  refine AllReadyH.cons rfl (fun K hK => ?_) ?_
  go_simp
  refine hK.out _ _ (by first | exact hHeld1.alloc _ | exact (hHeld1.alloc _).drew) (fun hHeld20 => ?_)
  first | have hN20 := newK2 hHeld20 | have hN20 := newK2d hHeld20
  clear hK K; try clear hb
  try go_frame
  refine ty [11] ?_
  refine AllReadyH.cons rfl (fun K hK => ?_) AllReadyH.nil
  go_simp
  (first | (with_reducible refine Calls.mono (M1.out _) ?_) | (with_reducible refine Calls.mono (M2.out _) ?_) | (with_reducible refine Calls.mono (OF.out _) ?_) | ((with_reducible refine Calls.mono (TT.out _ _ ?_ ?_ ?_ ?_ ?_ ?_ ?_) ?_) <;> first | (simp; done) | (simp [go_sem]; done) | skip)); rintro e w5 ⟨rfl, hb⟩
  refine hK.out _ _ (hHeld20.next hb) (fun hHeld21 => ?_)
  replace hN20 := hN20.next hb
  clear hK K; try clear hb
  try go_frame
  refine ty [15] ?_
  refine AllReadyH.cons rfl (fun K hK => ?_) AllReadyH.nil
  go_simp
  (first | (with_reducible refine Calls.mono (M1.out _) ?_) | (with_reducible refine Calls.mono (M2.out _) ?_) | (with_reducible refine Calls.mono (OF.out _) ?_) | ((with_reducible refine Calls.mono (TT.out _ _ ?_ ?_ ?_ ?_ ?_ ?_ ?_) ?_) <;> first | (simp; done) | (simp [go_sem]; done) | skip)); rintro e w5 ⟨rfl, hb⟩
  refine hK.out _ _ (hHeld21.next hb) (fun hHeld22 => ?_)
  replace hN20 := hN20.next hb
  clear hK K; try clear hb
  try go_frame
  refine ty [16] ?_
  refine AllReadyH.cons rfl (fun K hK => ?_) AllReadyH.nil
  go_simp
  refine hK.out _ _ (by first | exact hHeld22.alloc _ | exact (hHeld22.alloc _).drew) (fun hHeld23 => ?_)
  first | replace hN20 := hN20.allocAs hHeld23 | replace hN20 := hN20.allocAsD hHeld23
  clear hK K; try clear hb
  try go_frame
  refine ty [17] ?_
  refine AllReadyH.cons rfl (fun K hK => ?_) AllReadyH.nil
  go_simp
  (first | (with_reducible refine Calls.mono (M1.out _) ?_) | (with_reducible refine Calls.mono (M2.out _) ?_) | (with_reducible refine Calls.mono (OF.out _) ?_) | ((with_reducible refine Calls.mono (TT.out _ _ ?_ ?_ ?_ ?_ ?_ ?_ ?_) ?_) <;> first | (simp; done) | (simp [go_sem]; done) | skip)); rintro e w5 ⟨rfl, hb⟩
  refine hK.out _ _ (hHeld23.next hb) (fun hHeld24 => ?_)
  replace hN20 := hN20.next hb
  clear hK K; try clear hb
  try go_frame
  refine tv 18 7 rfl rfl ?_
  try go_frame
  refine tv 19 26 rfl rfl ?_
  try go_frame
  refine tv 20 27 rfl rfl ?_
  try go_frame
  refine ty [22] ?_
  refine AllReadyH.cons rfl (fun K hK => ?_) AllReadyH.nil
  have hz0 := hHeld1.1.size; obtain ⟨⟨az0,_,_⟩,⟨az1,_,_⟩,⟨az2,_,_⟩,⟨az3,_,_⟩,⟨az4,_,_⟩,⟨az5,_,_⟩,_⟩ := hHeld1.2; (try simp at hz0); (try simp at az0); (try simp at az1); (try simp at az2); (try simp at az3); (try simp at az4); (try simp at az5)
  obtain ⟨⟨t0z0, t0c0, t0f0⟩, ⟨t0z1, t0c1, t0f1⟩, _⟩ := hN20.2; (try simp at t0z0); (try simp at t0c0); (try simp at t0f0); (try simp at t0z1); (try simp at t0c1); (try simp at t0f1)
  go_simp
  refine hK.out _ _ (by first | exact hHeld1.alloc _ | (repeat (first | (with_reducible exact hHeld24) | (with_reducible exact (Keeps.undrewR hHeld24)) | (refine Keeps.set ?_ (by simp <;> omega) (by simp <;> omega) _) | (with_reducible refine Keeps.drew ?_)))) (fun hHeld25 => ?_)
  clear hK K; try clear hb
  try go_frame
  refine tv 23 6 rfl rfl ?_
  try go_frame
  refine wpAnyH_done (by kernel_rfl) ?_ _
  have hHeld := hHeld25
  obtain ⟨⟨_,kc0,_⟩,⟨_,kc1,_⟩,⟨_,_,_⟩,⟨_,_,_⟩,⟨_,_,_⟩,⟨_,_,_⟩,_⟩ := hHeld.2
  (go_wp2_with fail; go_meet; (case rel => exact ⟨_, rfl, by simp [go_sem, *], by simp [go_sem, *], hHeld.1, hHeld.2.2.2.2.2.1, hHeld.2.2.2.2.2.2.1, trivial⟩))
  exact AllReadyH.nil
  refine AllReadyH.cons rfl (fun K hK => ?_) ?_
  go_simp
  refine hK.out _ _ (by first | exact hHeld0.alloc _ | exact (hHeld0.alloc _).drew) (fun hHeld26 => ?_)
  first | have hN26 := newK2 hHeld26 | have hN26 := newK2d hHeld26
  clear hK K; try clear hb
  try go_frame
  refine ty [6] ?_
  refine AllReadyH.cons rfl (fun K hK => ?_) AllReadyH.nil
  go_simp
  (first | (with_reducible refine Calls.mono (M1.out _) ?_) | (with_reducible refine Calls.mono (M2.out _) ?_) | (with_reducible refine Calls.mono (OF.out _) ?_) | ((with_reducible refine Calls.mono (TT.out _ _ ?_ ?_ ?_ ?_ ?_ ?_ ?_) ?_) <;> first | (simp; done) | (simp [go_sem]; done) | skip)); rintro e w5 ⟨rfl, hb⟩
  refine hK.out _ _ (hHeld26.next hb) (fun hHeld27 => ?_)
  replace hN26 := hN26.next hb
  clear hK K; try clear hb
  try go_frame
  refine ty [11] ?_
  refine AllReadyH.cons rfl (fun K hK => ?_) AllReadyH.nil
  go_simp
  (first | (with_reducible refine Calls.mono (M1.out _) ?_) | (with_reducible refine Calls.mono (M2.out _) ?_) | (with_reducible refine Calls.mono (OF.out _) ?_) | ((with_reducible refine Calls.mono (TT.out _ _ ?_ ?_ ?_ ?_ ?_ ?_ ?_) ?_) <;> first | (simp; done) | (simp [go_sem]; done) | skip)); rintro e w5 ⟨rfl, hb⟩
  refine hK.out _ _ (hHeld27.next hb) (fun hHeld28 => ?_)
  replace hN26 := hN26.next hb
  clear hK K; try clear hb
  try go_frame
  refine ty [15] ?_
  refine AllReadyH.cons rfl (fun K hK => ?_) AllReadyH.nil
  go_simp
  (first | (with_reducible refine Calls.mono (M1.out _) ?_) | (with_reducible refine Calls.mono (M2.out _) ?_) | (with_reducible refine Calls.mono (OF.out _) ?_) | ((with_reducible refine Calls.mono (TT.out _ _ ?_ ?_ ?_ ?_ ?_ ?_ ?_) ?_) <;> first | (simp; done) | (simp [go_sem]; done) | skip)); rintro e w5 ⟨rfl, hb⟩
  refine hK.out _ _ (hHeld28.next hb) (fun hHeld29 => ?_)
  replace hN26 := hN26.next hb
  clear hK K; try clear hb
  try go_frame
  refine ty [16] ?_
  refine AllReadyH.cons rfl (fun K hK => ?_) AllReadyH.nil
  go_simp
  refine hK.out _ _ (by first | exact hHeld29.alloc _ | exact (hHeld29.alloc _).drew) (fun hHeld30 => ?_)
  first | replace hN26 := hN26.allocAs hHeld30 | replace hN26 := hN26.allocAsD hHeld30
  clear hK K; try clear hb
  try go_frame
  refine ty [17] ?_
  refine AllReadyH.cons rfl (fun K hK => ?_) AllReadyH.nil
  go_simp
  (first | (with_reducible refine Calls.mono (M1.out _) ?_) | (with_reducible refine Calls.mono (M2.out _) ?_) | (with_reducible refine Calls.mono (OF.out _) ?_) | ((with_reducible refine Calls.mono (TT.out _ _ ?_ ?_ ?_ ?_ ?_ ?_ ?_) ?_) <;> first | (simp; done) | (simp [go_sem]; done) | skip)); rintro e w5 ⟨rfl, hb⟩
  refine hK.out _ _ (hHeld30.next hb) (fun hHeld31 => ?_)
  replace hN26 := hN26.next hb
  clear hK K; try clear hb
  try go_frame
  refine tv 18 7 rfl rfl ?_
  try go_frame
  refine tv 19 26 rfl rfl ?_
  try go_frame
  refine tv 20 27 rfl rfl ?_
  try go_frame
  refine ty [22] ?_
  refine AllReadyH.cons rfl (fun K hK => ?_) AllReadyH.nil
  have hz0 := hHeld0.1.size; obtain ⟨⟨az0,_,_⟩,⟨az1,_,_⟩,⟨az2,_,_⟩,⟨az3,_,_⟩,⟨az4,_,_⟩,⟨az5,_,_⟩,_⟩ := hHeld0.2; (try simp at hz0); (try simp at az0); (try simp at az1); (try simp at az2); (try simp at az3); (try simp at az4); (try simp at az5)
  obtain ⟨⟨t0z0, t0c0, t0f0⟩, ⟨t0z1, t0c1, t0f1⟩, _⟩ := hN26.2; (try simp at t0z0); (try simp at t0c0); (try simp at t0f0); (try simp at t0z1); (try simp at t0c1); (try simp at t0f1)
  go_simp
  refine hK.out _ _ (by first | exact hHeld0.alloc _ | (repeat (first | (with_reducible exact hHeld31) | (with_reducible exact (Keeps.undrewR hHeld31)) | (refine Keeps.set ?_ (by simp <;> omega) (by simp <;> omega) _) | (with_reducible refine Keeps.drew ?_)))) (fun hHeld32 => ?_)
  clear hK K; try clear hb
  try go_frame
  refine tv 23 6 rfl rfl ?_
  try go_frame
  refine wpAnyH_done (by kernel_rfl) ?_ _
  have hHeld := hHeld32
  obtain ⟨⟨_,kc0,_⟩,⟨_,kc1,_⟩,⟨_,_,_⟩,⟨_,_,_⟩,⟨_,_,_⟩,⟨_,_,_⟩,_⟩ := hHeld.2
  (go_wp2_with fail; go_meet; (case rel => exact ⟨_, rfl, by simp [go_sem, *], by simp [go_sem, *], hHeld.1, hHeld.2.2.2.2.2.1, hHeld.2.2.2.2.2.2.1, trivial⟩))
  exact AllReadyH.nil
 case rest =>
  obtain ⟨g, rfl, c0, c1, hHeld⟩ := hcut
  obtain ⟨⟨kz0, kc0, kf0⟩, ⟨kz1, kc1, kf1⟩, _⟩ := hHeld.2
  go_wp2_with fail
  obtain ⟨d0, d1⟩ := set2 (W := wc) (B := w.heap.size + 1) (u0 := .int .i64 z0) (u1 := .int .u64 z1) kc0 kc1
  refine bodyPost_ret (v := wideV z0 z1) (by simp [results, Tryz.results239, go_sem, d0, d1]) rfl ?_
  exact ⟨rfl, by first | (with_reducible exact hHeld.1) | (have hB := hHeld.1; have hz := hB.size; go_grown)⟩
def ovQ (z d : Int) : Int := if backB (z / d) then z / d else 0
def ovR (z d : Int) : Int := if backB (z / d) then z % d else 0
def ovE (z d : Int) : Int := if backB (z / d) then 0 else 5
theorem backB_int {q : Int} (h : backB q = true) : ihi q = q ∧ icode q = 0 := by
 obtain ⟨h1, h2⟩ := (backB_iff _).1 h
 unfold ihi icode
 rw [if_pos (by omega), if_pos (by omega)]
 exact ⟨rfl, rfl⟩
set_option maxRecDepth 100000 in
set_option maxHeartbeats 2000000 in
theorem over_walk (z0 z1 d q0 q1 i c m q r cd : Int) (w : World)
  (DV : ∀ W, Calls Tryz.prog 251 #[wideV z0 z1, .int .i64 d] W (Ret W (.tuple #[wideV q0 q1, .int .i64 m, .int .i64 0])))
  (IN : ∀ W, Calls Tryz.prog 252 #[wideV q0 q1] W (Ret W (.tuple #[.int .i64 i, .int .i64 c])))
  (hc : c = 0 ∧ backB i = true ∧ q = i ∧ r = m ∧ cd = 0 ∨ c = 0 ∧ backB i = false ∧ q = 0 ∧ r = 0 ∧ cd = 5 ∨ c = 5 ∧ q = 0 ∧ r = 0 ∧ cd = 5) :
  Calls Tryz.prog 238 #[wideV z0 z1, .int .i64 d] w (Ret w (.tuple #[.int .i64 q, .int .i64 r, .int .i64 cd])) := by
 have IB := fun W => isBack_any i W
 replace DV := Lib.hid DV
 replace IN := Lib.hid IN
 rcases hc with ⟨rfl, gb, rfl, rfl, rfl⟩ | ⟨rfl, gb, rfl, rfl, rfl⟩ | ⟨rfl, rfl, rfl, rfl⟩
 ·rw [gb] at IB
  replace IB := Lib.hid IB
  clear gb
  go_enter Tryz.func238, Tryz.ntmps238
  go_wp2_with fail
  refine (DV.out _).mono ?_
  rintro e w1 ⟨rfl, hb⟩
  have hHeld : Keeps w [(w.heap.size, 0, .int .i64 z0), (w.heap.size, 1, .int .u64 z1)] _ := Keeps.next (by refine ⟨by go_grown, ?_⟩; simp [Cells, go_sem]) hb
  clear hb
  obtain ⟨⟨kz0, kc0, kf0⟩, ⟨kz1, kc1, kf1⟩, _⟩ := hHeld.2
  go_wp2_with fail
  refine (IN.out _).mono ?_
  rintro e w2 ⟨rfl, hb⟩
  replace hHeld := Keeps.next ((hHeld.alloc _)) hb
  clear hb kz0 kc0 kf0 kz1 kc1 kf1
  obtain ⟨⟨kz0, kc0, kf0⟩, ⟨kz1, kc1, kf1⟩, _⟩ := hHeld.2
  go_wp2_with fail
  refine (IB.out _).mono ?_
  rintro e w3 ⟨rfl, hb⟩
  replace hHeld := Keeps.next (hHeld) hb
  clear hb kz0 kc0 kf0 kz1 kc1 kf1
  obtain ⟨⟨kz0, kc0, kf0⟩, ⟨kz1, kc1, kf1⟩, _⟩ := hHeld.2
  go_wp2_with fail
  go_returns
  exact ⟨rfl, by first | (with_reducible exact hHeld.1) | (have hB := hHeld.1; have hz := hB.size; go_grown)⟩
 ·rw [gb] at IB
  replace IB := Lib.hid IB
  clear gb
  go_enter Tryz.func238, Tryz.ntmps238
  go_wp2_with fail
  refine (DV.out _).mono ?_
  rintro e w1 ⟨rfl, hb⟩
  have hHeld : Keeps w [(w.heap.size, 0, .int .i64 z0), (w.heap.size, 1, .int .u64 z1)] _ := Keeps.next (by refine ⟨by go_grown, ?_⟩; simp [Cells, go_sem]) hb
  clear hb
  obtain ⟨⟨kz0, kc0, kf0⟩, ⟨kz1, kc1, kf1⟩, _⟩ := hHeld.2
  go_wp2_with fail
  refine (IN.out _).mono ?_
  rintro e w2 ⟨rfl, hb⟩
  replace hHeld := Keeps.next ((hHeld.alloc _)) hb
  clear hb kz0 kc0 kf0 kz1 kc1 kf1
  obtain ⟨⟨kz0, kc0, kf0⟩, ⟨kz1, kc1, kf1⟩, _⟩ := hHeld.2
  go_wp2_with fail
  refine (IB.out _).mono ?_
  rintro e w3 ⟨rfl, hb⟩
  replace hHeld := Keeps.next (hHeld) hb
  clear hb kz0 kc0 kf0 kz1 kc1 kf1
  obtain ⟨⟨kz0, kc0, kf0⟩, ⟨kz1, kc1, kf1⟩, _⟩ := hHeld.2
  go_wp2_with fail
  go_returns
  exact ⟨rfl, by first | (with_reducible exact hHeld.1) | (have hB := hHeld.1; have hz := hB.size; go_grown)⟩
 ·clear IB
  go_enter Tryz.func238, Tryz.ntmps238
  go_wp2_with fail
  refine (DV.out _).mono ?_
  rintro e w1 ⟨rfl, hb⟩
  have hHeld : Keeps w [(w.heap.size, 0, .int .i64 z0), (w.heap.size, 1, .int .u64 z1)] _ := Keeps.next (by refine ⟨by go_grown, ?_⟩; simp [Cells, go_sem]) hb
  clear hb
  obtain ⟨⟨kz0, kc0, kf0⟩, ⟨kz1, kc1, kf1⟩, _⟩ := hHeld.2
  go_wp2_with fail
  refine (IN.out _).mono ?_
  rintro e w2 ⟨rfl, hb⟩
  replace hHeld := Keeps.next ((hHeld.alloc _)) hb
  clear hb kz0 kc0 kf0 kz1 kc1 kf1
  obtain ⟨⟨kz0, kc0, kf0⟩, ⟨kz1, kc1, kf1⟩, _⟩ := hHeld.2
  go_wp2_with fail
  go_returns
  exact ⟨rfl, by first | (with_reducible exact hHeld.1) | (have hB := hHeld.1; have hz := hB.size; go_grown)⟩
theorem over_fits (z d : Int) (hz : Fits z) (hd : 1 ≤ d) (hd2 : d ≤ 9223372036854775807) (w : World) :
  Calls Tryz.prog 238 #[wideV (rhi z) (rlo z), .int .i64 d] w (Ret w (.tuple #[.int .i64 (ovQ z d), .int .i64 (ovR z d), .int .i64 (ovE z d)])) := by
 have hq := div_fits hz (show 0 < d by omega)
 refine over_walk (rhi z) (rlo z) d (rhi (z / d)) (rlo (z / d)) (ihi (z / d)) (icode (z / d)) (z % d) _ _ _ w (fun W => ?_) (fun W => ?_) ?_
 ·have := div_any (rhi z) (rlo z) d (rhi_i64 z) (rlo_u64 z) ⟨by omega, by omega⟩ W
  rw [val_r hz] at this
  have g : ¬ d < 1 := by omega
  have e : divV z d = .tuple #[wideV (rhi (z / d)) (rlo (z / d)), .int .i64 (z % d), .int .i64 0] := by unfold divV qhi qlo qrest qcode; rw [if_neg g, if_neg g, if_neg g, if_neg g]
  rw [← e]
  exact this
 ·have := int_any (rhi (z / d)) (rlo (z / d)) (rhi_i64 _) (rlo_u64 _) W
  rw [val_r hq] at this
  exact this
 ·unfold ovQ ovR ovE
  cases g : backB (z / d)
  ·simp only [Bool.false_eq_true, if_false]
   by_cases gi : -9223372036854775808 ≤ z / d ∧ z / d ≤ 9223372036854775807
   ·have e1 : ihi (z / d) = z / d := by unfold ihi; rw [if_pos gi]
    have e2 : icode (z / d) = 0 := by unfold icode; rw [if_pos gi]
    rw [e1, e2]
    exact Or.inr (Or.inl ⟨(by first | rfl | trivial), g, (by first | rfl | trivial), (by first | rfl | trivial), (by first | rfl | trivial)⟩)
   ·have e2 : icode (z / d) = 5 := by unfold icode; rw [if_neg gi]
    rw [e2]
    exact Or.inr (Or.inr ⟨(by first | rfl | trivial), (by first | rfl | trivial), (by first | rfl | trivial), (by first | rfl | trivial)⟩)
  ·obtain ⟨e1, e2⟩ := backB_int g
   rw [e1, e2]
   simp only [if_true]
   exact Or.inl ⟨(by first | rfl | trivial), g, (by first | rfl | trivial), (by first | rfl | trivial), (by first | rfl | trivial)⟩
attribute [irreducible] ovQ ovR ovE
def atQ (a r n d t : Int) : Int := if timeB t then ovQ (exV a r n d t) d else 0
def atE (a r n d t : Int) : Int := if timeB t then ovE (exV a r n d t) d else 2
set_option maxRecDepth 100000 in
set_option maxHeartbeats 2000000 in
theorem aat_any (a r n d t : Int) (h : lineB a r n d = true) (w : World) :
  Calls Tryz.prog 222 #[lnV a r n d, .int .i64 t] w (Ret w (.tuple #[.int .i64 (atQ a r n d t), .int .i64 (atE a r n d t)])) := by
 have IT := fun W => isTime_any t W
 unfold atQ atE
 cases gt : timeB t
 ·rw [gt] at IT
  replace IT := Lib.hid IT
  simp only [Bool.false_eq_true, if_false]
  clear gt h
  go_enter Tryz.func222, Tryz.ntmps222
  go_wp2_with fail
  refine (IT.out _).mono ?_
  rintro e w1 ⟨rfl, hb⟩
  go_wp2_with fail
  go_returns
  exact ⟨rfl, under (below_alloc _ _) hb⟩
 ·rw [gt] at IT
  replace IT := Lib.hid IT
  simp only [if_true]
  have TD := Lib.hid (fun W => timesD_any a r n d t h gt W)
  have fz := (ex_fits h gt).2.2.1
  obtain ⟨_, _, _, _, _, d1, d2, _⟩ := ex_bounds h gt
  have OV := fun W => over_fits (exV a r n d t) d fz d1 (by omega) W
  generalize exV a r n d t = z at *
  simp only [wz] at TD
  generalize ovQ z d = q at *
  generalize ovR z d = s at *
  generalize ovE z d = c at *
  clear fz h gt
  generalize rhi z = z0 at *
  generalize rlo z = z1 at *
  replace OV := Lib.hid OV
  go_enter Tryz.func222, Tryz.ntmps222
  go_wp2_with fail
  refine (IT.out _).mono ?_
  rintro e w1 ⟨rfl, hb⟩
  have hHeld : Keeps w [(w.heap.size, 0, .int .i64 a), (w.heap.size, 1, .int .i64 r), (w.heap.size, 2, .int .i64 n), (w.heap.size, 3, .int .i64 d)] _ := Keeps.next (by refine ⟨by go_grown, ?_⟩; simp [Cells, go_sem]) hb
  clear hb
  obtain ⟨⟨_,_,_⟩,⟨_,_,_⟩,⟨_,_,_⟩,⟨_,_,_⟩,_⟩ := hHeld.2
  go_wp2_with fail
  refine region_keeps (w0 := w) (L := [(w.heap.size, 0, .int .i64 a), (w.heap.size, 1, .int .i64 r), (w.heap.size, 2, .int .i64 n), (w.heap.size, 3, .int .i64 d)]) (by kernel_rfl) (by first | exact hHeld | (refine ⟨by go_grown, ?_⟩; simp [Cells, go_sem]; done)) (fun hHeld0 => ?_)
  refine tk 0 13 rfl rfl ?_ ?_ ?_
  rotate_left
  ·intro wq hSw; obtain ⟨⟨_,_,_⟩,⟨_,_,_⟩,⟨_,_,_⟩,⟨_,_,_⟩,_⟩ := hSw.2; go_simp; (try with_reducible rfl)
  try go_frame
  refine tv 1 14 rfl rfl ?_
  try go_frame
  refine tv 3 16 rfl rfl ?_
  try go_frame
  refine tv 4 17 rfl rfl ?_
  try go_frame
  refine tk 5 18 rfl rfl ?_ ?_ ?_
  rotate_left
  ·intro wq hSw; obtain ⟨⟨_,_,_⟩,⟨_,_,_⟩,⟨_,_,_⟩,⟨_,_,_⟩,_⟩ := hSw.2; go_simp; (try with_reducible rfl)
  try go_frame
  refine ty [2] ?_
  refine AllReadyH.cons rfl (fun K hK => ?_) AllReadyH.nil
  go_simp
  (first | (with_reducible refine Calls.mono (TD.out _) ?_) | (with_reducible refine Calls.mono (OV.out _) ?_)); rintro e w5 ⟨rfl, hb⟩
  refine hK.out _ _ (hHeld0.next hb) (fun hHeld1 => ?_)
  clear hK K; try clear hb
  try go_frame
  refine ty [6] ?_
  refine AllReadyH.cons rfl (fun K hK => ?_) AllReadyH.nil
  go_simp
  (first | (with_reducible refine Calls.mono (TD.out _) ?_) | (with_reducible refine Calls.mono (OV.out _) ?_)); rintro e w5 ⟨rfl, hb⟩
  refine hK.out _ _ (hHeld1.next hb) (fun hHeld2 => ?_)
  clear hK K; try clear hb
  try go_frame
  refine tv 7 12 rfl rfl ?_
  try go_frame
  refine tv 8 20 rfl rfl ?_
  try go_frame
  refine tv 9 21 rfl rfl ?_
  try go_frame
  refine tv 10 22 rfl rfl ?_
  try go_frame
  refine tv 11 6 rfl rfl ?_
  try go_frame
  refine tv 12 7 rfl rfl ?_
  try go_frame
  refine tv 13 8 rfl rfl ?_
  try go_frame
  refine wpAnyH_done (by kernel_rfl) ?_ _
  have hHeld := hHeld2
  obtain ⟨⟨_,_,_⟩,⟨_,_,_⟩,⟨_,_,_⟩,⟨_,_,_⟩,_⟩ := hHeld.2
  all_goals
   go_wp2_with fail
   go_returns
   exact ⟨rfl, hHeld.1⟩
end Go.Proofs.YtcfidimnbamnkaaGreat

/-
 Layer 5: At and Within. Conditions: the numbers are of 64 bits.
-/
namespace Go.Proofs.YtcfidimnbamnkaaGreat
open Go.RowKit

set_option maxRecDepth 100000 in
theorem at1_any (a r n d t : Int) (h : lineB a r n d = true) (B1 B2 : Nat) (w : World) (hc : Cells [(B1, 0, .int .i64 a), (B1, 1, .int .i64 r), (B1, 2, .int .i64 n), (B1, 3, .int .i64 d), (B2, 0, .int .i64 t)] w) :
  Calls Tryz.prog 224 #[.pointer (some ⟨B1, 0, none⟩), .pointer (some ⟨B2, 0, none⟩)] w (Ret w (.tuple #[.int .i64 (atQ a r n d t), .int .i64 (atE a r n d t)])) := by
 have AA := fun W => aat_any a r n d t h W
 generalize atQ a r n d t = q at *
 generalize atE a r n d t = c at *
 replace AA := Lib.hid AA
 clear h
 obtain ⟨⟨_,_,_⟩,⟨_,_,_⟩,⟨_,_,_⟩,⟨_,_,_⟩,⟨_,_,_⟩,_⟩ := hc
 go_enter Tryz.func224, Tryz.ntmps224
 go_wp2_with fail
 refine (AA.out _).mono ?_
 rintro e w1 ⟨rfl, hb⟩
 go_wp2_with fail
 go_returns
 exact ⟨rfl, hb⟩
def tlQ (a r n d t : Int) : Int := if lineB a r n d then atQ a r n d t else 0
def tlE (a r n d t : Int) : Int := if lineB a r n d then atE a r n d t else 150
attribute [irreducible] tlQ tlE
end Go.Proofs.YtcfidimnbamnkaaGreat

/-
 Layer 5: slopes: Lowest, Compare, Nearest. Conditions: the numbers are of 64 bits.
-/
namespace Go.Proofs.YtcfidimnbamnkaaGreat
open Go.RowKit

end Go.Proofs.YtcfidimnbamnkaaGreat

/-
 Layer 5: Ends. Conditions: the numbers are of 64 bits.
-/
namespace Go.Proofs.YtcfidimnbamnkaaGreat
open Go.RowKit

theorem run_index_arr {P : Program} (w : World) (t e : TypeId) (n : Nat) (cs : Array Value) (i : Nat) (v : Value) (h : P.underlying t = some (.array n e)) (ha : (isAgg e).run P w = .ok false w) (hs : (sizeOf e).run P w = .ok 1 w)
  (hi : i < n) (hv : cs[i]? = some v) : (Instr.index t (.agg cs) (.int .i64 i)).run P w = .ok v w := by
 simp [Instr.index, run_underlying h, asIntOf, hi, go_sem, part, ha, hs, hv]
theorem index0 (x y : Int) (W : World) : (Instr.index 263 (.agg #[.int .i64 x, .int .i64 y]) (.int .i64 0)).run Tryz.prog W = .ok (.int .i64 x) W :=
 run_index_arr W _ _ 2 #[.int .i64 x, .int .i64 y] 0 _ Tryz.underlying263 (Tryz.isAgg2 W) (Tryz.sizeOf2 W) (by decide) rfl
theorem index1 (x y : Int) (W : World) : (Instr.index 263 (.agg #[.int .i64 x, .int .i64 y]) (.int .i64 1)).run Tryz.prog W = .ok (.int .i64 y) W :=
 run_index_arr W _ _ 2 #[.int .i64 x, .int .i64 y] 1 _ Tryz.underlying263 (Tryz.isAgg2 W) (Tryz.sizeOf2 W) (by decide) rfl
theorem join_two (p q : Int) : resS min max [(p, p), (q, q)] = .tuple #[spV (min p q) (max p q), .int .i64 0] := by
 have e : accS min max [(p, p), (q, q)] = (min p q, max p q) := by
  show (min (min p p) q, max (max p p) q) = (min p q, max p q)
  rw [Int.min_self, Int.max_self]
 have e2 : badS [(p, p), (q, q)] = false := by
  unfold badS
  simp
 unfold resS
 rw [if_neg (by simp), e2, if_neg (by simp), e]
attribute [local go_sem] index0 index1
set_option maxRecDepth 100000 in
set_option maxHeartbeats 4000000 in
theorem between_good (l : Value) (x y p q : Int) (w : World)
  (A1 : ∀ W, Calls Tryz.prog 222 #[l, .int .i64 x] W (Ret W (.tuple #[.int .i64 p, .int .i64 0])))
  (A2 : ∀ W, Calls Tryz.prog 222 #[l, .int .i64 y] W (Ret W (.tuple #[.int .i64 q, .int .i64 0]))) :
  Calls Tryz.prog 221 #[.agg #[.int .i64 x, .int .i64 y], .func (.func 222) #[l] #[]] w (Ret w (.tuple #[spV (min p q) (max p q), .int .i64 0])) := by
 replace A1 := Lib.hid A1
 replace A2 := Lib.hid A2
 have PT := Lib.hid (fun v W => point_any v W)
 have JO := fun v W k => joinR_any [(p, p), (q, q)] (by simp) v W k
 rw [join_two] at JO
 replace JO := Lib.hid JO
 go_enter Tryz.func221, Tryz.ntmps221
 go_wp2_with fail
 refine wp_loop_rounds 3 ?_
 rw [rounds_succ]
 go_wp2_with fail
 refine (A1.out _).mono ?_
 rintro e w1 ⟨rfl, hb⟩
 have hHeld : Keeps w [(w.heap.size + 1, 0, .int .i64 0), (w.heap.size + 1, 1, .int .i64 0), (w.heap.size + 2, 0, .int .i64 0), (w.heap.size + 2, 1, .int .i64 0), (w.heap.size + 2, 2, .int .i64 0), (w.heap.size + 2, 3, .int .i64 0)] _ := Keeps.next (by refine ⟨by go_grown, ?_⟩; simp [Cells, go_sem]) hb
 clear hb
 obtain ⟨⟨kz0,kc0,kf0⟩,⟨kz1,kc1,kf1⟩,⟨kz2,kc2,kf2⟩,⟨kz3,kc3,kf3⟩,⟨kz4,kc4,kf4⟩,⟨kz5,kc5,kf5⟩,_⟩ := hHeld.2
 go_wp2_with fail
 refine (PT.out _ _).mono ?_
 rintro e w2 ⟨rfl, hb⟩
 replace hHeld := Keeps.next (hHeld) hb
 clear hb kz0 kc0 kf0 kz1 kc1 kf1 kz2 kc2 kf2 kz3 kc3 kf3 kz4 kc4 kf4 kz5 kc5 kf5
 obtain ⟨⟨kz0,kc0,kf0⟩,⟨kz1,kc1,kf1⟩,⟨kz2,kc2,kf2⟩,⟨kz3,kc3,kf3⟩,⟨kz4,kc4,kf4⟩,⟨kz5,kc5,kf5⟩,_⟩ := hHeld.2
 go_wp2_with fail
 rw [rounds_succ]
 go_wp2_with fail
 have k1 : Keeps w [(w.heap.size + 1, 0, .int .i64 0), (w.heap.size + 1, 1, .int .i64 0), (w.heap.size + 2, 0, .int .i64 p), (w.heap.size + 2, 1, .int .i64 p), (w.heap.size + 2, 2, .int .i64 0), (w.heap.size + 2, 3, .int .i64 0)] ((w2.setCell ⟨w.heap.size + 2, 0, none⟩ (.int .i64 p)).setCell ⟨w.heap.size + 2, 1, none⟩ (.int .i64 p)) := ⟨(hHeld.1.setCell (by simp) _).setCell (by simp) _, ⟨by simpa using kz0, off_cell (by simp) (off_cell (by simp) kc0), by simpa using kf0⟩, ⟨by simpa using kz1, off_cell (by simp) (off_cell (by simp) kc1), by simpa using kf1⟩, ⟨by simpa using kz2, off_cell (by simp) (World.cell?_setCell_same' _ _ _ (by rw [kc2]; rfl)), by simpa using kf2⟩, ⟨by simpa using kz3, World.cell?_setCell_same' _ _ _ (by rw [off_cell (by simp) kc3]; rfl), by simpa using kf3⟩, ⟨by simpa using kz4, off_cell (by simp) (off_cell (by simp) kc4), by simpa using kf4⟩, ⟨by simpa using kz5, off_cell (by simp) (off_cell (by simp) kc5), by simpa using kf5⟩, trivial⟩
 refine (A2.out _).mono ?_
 rintro e w3 ⟨rfl, hb⟩
 replace hHeld : Keeps w [(w.heap.size + 1, 0, .int .i64 0), (w.heap.size + 1, 1, .int .i64 0), (w.heap.size + 2, 0, .int .i64 p), (w.heap.size + 2, 1, .int .i64 p), (w.heap.size + 2, 2, .int .i64 0), (w.heap.size + 2, 3, .int .i64 0)] _ := Keeps.next (k1) hb
 clear hb kz0 kc0 kf0 kz1 kc1 kf1 kz2 kc2 kf2 kz3 kc3 kf3 kz4 kc4 kf4 kz5 kc5 kf5
 obtain ⟨⟨kz0,kc0,kf0⟩,⟨kz1,kc1,kf1⟩,⟨kz2,kc2,kf2⟩,⟨kz3,kc3,kf3⟩,⟨kz4,kc4,kf4⟩,⟨kz5,kc5,kf5⟩,_⟩ := hHeld.2
 go_wp2_with fail
 refine (PT.out _ _).mono ?_
 rintro e w4 ⟨rfl, hb⟩
 replace hHeld := Keeps.next (hHeld) hb
 clear hb kz0 kc0 kf0 kz1 kc1 kf1 kz2 kc2 kf2 kz3 kc3 kf3 kz4 kc4 kf4 kz5 kc5 kf5
 obtain ⟨⟨kz0,kc0,kf0⟩,⟨kz1,kc1,kf1⟩,⟨kz2,kc2,kf2⟩,⟨kz3,kc3,kf3⟩,⟨kz4,kc4,kf4⟩,⟨kz5,kc5,kf5⟩,_⟩ := hHeld.2
 go_wp2_with fail
 rw [rounds_succ]
 go_wp2_with fail
 have k2 : Keeps w [(w.heap.size + 1, 0, .int .i64 0), (w.heap.size + 1, 1, .int .i64 0), (w.heap.size + 2, 0, .int .i64 p), (w.heap.size + 2, 1, .int .i64 p), (w.heap.size + 2, 2, .int .i64 q), (w.heap.size + 2, 3, .int .i64 q)] ((w4.setCell ⟨w.heap.size + 2, 2, none⟩ (.int .i64 q)).setCell ⟨w.heap.size + 2, 3, none⟩ (.int .i64 q)) := ⟨(hHeld.1.setCell (by simp) _).setCell (by simp) _, ⟨by simpa using kz0, off_cell (by simp) (off_cell (by simp) kc0), by simpa using kf0⟩, ⟨by simpa using kz1, off_cell (by simp) (off_cell (by simp) kc1), by simpa using kf1⟩, ⟨by simpa using kz2, off_cell (by simp) (off_cell (by simp) kc2), by simpa using kf2⟩, ⟨by simpa using kz3, off_cell (by simp) (off_cell (by simp) kc3), by simpa using kf3⟩, ⟨by simpa using kz4, off_cell (by simp) (World.cell?_setCell_same' _ _ _ (by rw [kc4]; rfl)), by simpa using kf4⟩, ⟨by simpa using kz5, World.cell?_setCell_same' _ _ _ (by rw [off_cell (by simp) kc5]; rfl), by simpa using kf5⟩, trivial⟩
 refine Calls.mono (JO.out _ _ ?_) ?_
 ·refine ⟨some ⟨w.heap.size + 2, 0, none⟩, 2, rfl, fun i s hi => ?_⟩
  match i, hi with
  | 0, hi => simp at hi; subst hi; exact ⟨_, 0, rfl, k2.2.2.2.1.1, k2.2.2.2.1.2.1, k2.2.2.2.2.1.2.1⟩
  | 1, hi => simp at hi; subst hi; exact ⟨_, 0, rfl, k2.2.2.2.1.1, k2.2.2.2.2.2.1.2.1, k2.2.2.2.2.2.2.1.2.1⟩
 rintro e w5 ⟨rfl, hb⟩
 replace hHeld : Keeps w [(w.heap.size + 1, 0, .int .i64 0), (w.heap.size + 1, 1, .int .i64 0)] _ := Keeps.next ((show Keeps w [(w.heap.size + 1, 0, .int .i64 0), (w.heap.size + 1, 1, .int .i64 0)] _ from ⟨k2.1, k2.2.1, k2.2.2.1, trivial⟩)) hb
 clear hb kz0 kc0 kf0 kz1 kc1 kf1 kz2 kc2 kf2 kz3 kc3 kf3 kz4 kc4 kf4 kz5 kc5 kf5
 obtain ⟨⟨kz0, kc0, kf0⟩, ⟨kz1, kc1, kf1⟩, _⟩ := hHeld.2
 go_wp2_with fail
 obtain ⟨d0, d1⟩ := set2 (W := w5) (B := w.heap.size + 1) (u0 := .int .i64 (min p q)) (u1 := .int .i64 (max p q)) kc0 kc1
 generalize min p q = lo at *
 generalize max p q = hi at *
 refine bodyPost_ret (v := .tuple #[spV lo hi, .int .i64 0]) (by simp [results, Tryz.results221, go_sem, d0, d1]) rfl ?_
 exact ⟨rfl, by first | (with_reducible exact hHeld.1) | (have hB := hHeld.1; have hz := hB.size; go_grown)⟩
set_option maxRecDepth 100000 in
set_option maxHeartbeats 4000000 in
theorem between_err1 (l : Value) (x y p c : Int) (w : World) (hc : (c == 0) = false)
  (A1 : ∀ W, Calls Tryz.prog 222 #[l, .int .i64 x] W (Ret W (.tuple #[.int .i64 p, .int .i64 c]))) :
  Calls Tryz.prog 221 #[.agg #[.int .i64 x, .int .i64 y], .func (.func 222) #[l] #[]] w (Ret w (.tuple #[spV 0 0, .int .i64 c])) := by
 replace A1 := Lib.hid A1
 go_enter Tryz.func221, Tryz.ntmps221
 go_wp2_with fail
 refine wp_loop_rounds 3 ?_
 rw [rounds_succ]
 go_wp2_with fail
 refine (A1.out _).mono ?_
 rintro e w1 ⟨rfl, hb⟩
 have hHeld : Keeps w [(w.heap.size + 1, 0, .int .i64 0), (w.heap.size + 1, 1, .int .i64 0)] _ := Keeps.next (by refine ⟨by go_grown, ?_⟩; simp [Cells, go_sem]) hb
 clear hb
 obtain ⟨⟨kz0, kc0, kf0⟩, ⟨kz1, kc1, kf1⟩, _⟩ := hHeld.2
 go_wp2_with fail
 obtain ⟨d0, d1⟩ := set2 (W := w1) (B := w.heap.size + 1) (u0 := .int .i64 0) (u1 := .int .i64 0) kc0 kc1
 refine bodyPost_ret (v := .tuple #[spV 0 0, .int .i64 c]) (by simp [results, Tryz.results221, go_sem, d0, d1]) rfl ?_
 exact ⟨rfl, by first | (with_reducible exact hHeld.1) | (have hB := hHeld.1; have hz := hB.size; go_grown)⟩
set_option maxRecDepth 100000 in
set_option maxHeartbeats 4000000 in
theorem between_err2 (l : Value) (x y p q c : Int) (w : World) (hc : (c == 0) = false)
  (A1 : ∀ W, Calls Tryz.prog 222 #[l, .int .i64 x] W (Ret W (.tuple #[.int .i64 p, .int .i64 0])))
  (A2 : ∀ W, Calls Tryz.prog 222 #[l, .int .i64 y] W (Ret W (.tuple #[.int .i64 q, .int .i64 c]))) :
  Calls Tryz.prog 221 #[.agg #[.int .i64 x, .int .i64 y], .func (.func 222) #[l] #[]] w (Ret w (.tuple #[spV 0 0, .int .i64 c])) := by
 replace A1 := Lib.hid A1
 replace A2 := Lib.hid A2
 have PT := Lib.hid (fun v W => point_any v W)
 go_enter Tryz.func221, Tryz.ntmps221
 go_wp2_with fail
 refine wp_loop_rounds 3 ?_
 rw [rounds_succ]
 go_wp2_with fail
 refine (A1.out _).mono ?_
 rintro e w1 ⟨rfl, hb⟩
 have hHeld : Keeps w [(w.heap.size + 1, 0, .int .i64 0), (w.heap.size + 1, 1, .int .i64 0), (w.heap.size + 2, 0, .int .i64 0), (w.heap.size + 2, 1, .int .i64 0), (w.heap.size + 2, 2, .int .i64 0), (w.heap.size + 2, 3, .int .i64 0)] _ := Keeps.next (by refine ⟨by go_grown, ?_⟩; simp [Cells, go_sem]) hb
 clear hb
 obtain ⟨⟨kz0,kc0,kf0⟩,⟨kz1,kc1,kf1⟩,⟨kz2,kc2,kf2⟩,⟨kz3,kc3,kf3⟩,⟨kz4,kc4,kf4⟩,⟨kz5,kc5,kf5⟩,_⟩ := hHeld.2
 go_wp2_with fail
 refine (PT.out _ _).mono ?_
 rintro e w2 ⟨rfl, hb⟩
 replace hHeld := Keeps.next (hHeld) hb
 clear hb kz0 kc0 kf0 kz1 kc1 kf1 kz2 kc2 kf2 kz3 kc3 kf3 kz4 kc4 kf4 kz5 kc5 kf5
 obtain ⟨⟨kz0,kc0,kf0⟩,⟨kz1,kc1,kf1⟩,⟨kz2,kc2,kf2⟩,⟨kz3,kc3,kf3⟩,⟨kz4,kc4,kf4⟩,⟨kz5,kc5,kf5⟩,_⟩ := hHeld.2
 go_wp2_with fail
 rw [rounds_succ]
 go_wp2_with fail
 have k1 : Keeps w [(w.heap.size + 1, 0, .int .i64 0), (w.heap.size + 1, 1, .int .i64 0), (w.heap.size + 2, 0, .int .i64 p), (w.heap.size + 2, 1, .int .i64 p), (w.heap.size + 2, 2, .int .i64 0), (w.heap.size + 2, 3, .int .i64 0)] ((w2.setCell ⟨w.heap.size + 2, 0, none⟩ (.int .i64 p)).setCell ⟨w.heap.size + 2, 1, none⟩ (.int .i64 p)) := ⟨(hHeld.1.setCell (by simp) _).setCell (by simp) _, ⟨by simpa using kz0, off_cell (by simp) (off_cell (by simp) kc0), by simpa using kf0⟩, ⟨by simpa using kz1, off_cell (by simp) (off_cell (by simp) kc1), by simpa using kf1⟩, ⟨by simpa using kz2, off_cell (by simp) (World.cell?_setCell_same' _ _ _ (by rw [kc2]; rfl)), by simpa using kf2⟩, ⟨by simpa using kz3, World.cell?_setCell_same' _ _ _ (by rw [off_cell (by simp) kc3]; rfl), by simpa using kf3⟩, ⟨by simpa using kz4, off_cell (by simp) (off_cell (by simp) kc4), by simpa using kf4⟩, ⟨by simpa using kz5, off_cell (by simp) (off_cell (by simp) kc5), by simpa using kf5⟩, trivial⟩
 refine (A2.out _).mono ?_
 rintro e w3 ⟨rfl, hb⟩
 replace hHeld : Keeps w [(w.heap.size + 1, 0, .int .i64 0), (w.heap.size + 1, 1, .int .i64 0), (w.heap.size + 2, 0, .int .i64 p), (w.heap.size + 2, 1, .int .i64 p), (w.heap.size + 2, 2, .int .i64 0), (w.heap.size + 2, 3, .int .i64 0)] _ := Keeps.next (k1) hb
 clear hb kz0 kc0 kf0 kz1 kc1 kf1 kz2 kc2 kf2 kz3 kc3 kf3 kz4 kc4 kf4 kz5 kc5 kf5
 obtain ⟨⟨kz0,kc0,kf0⟩,⟨kz1,kc1,kf1⟩,⟨kz2,kc2,kf2⟩,⟨kz3,kc3,kf3⟩,⟨kz4,kc4,kf4⟩,⟨kz5,kc5,kf5⟩,_⟩ := hHeld.2
 go_wp2_with fail
 obtain ⟨d0, d1⟩ := set2 (W := w3) (B := w.heap.size + 1) (u0 := .int .i64 0) (u1 := .int .i64 0) kc0 kc1
 refine bodyPost_ret (v := .tuple #[spV 0 0, .int .i64 c]) (by simp [results, Tryz.results221, go_sem, d0, d1]) rfl ?_
 exact ⟨rfl, by first | (with_reducible exact hHeld.1) | (have hB := hHeld.1; have hz := hB.size; go_grown)⟩
def EndsI (x y p c1 q c2 lo hi c : Int) : Prop :=
 (timeB x = false ∨ timeB y = false ∨ y < x) ∧ lo = 0 ∧ hi = 0 ∧ c = 2 ∨ timeB x = true ∧ timeB y = true ∧ x ≤ y ∧ (c1 ≠ 0 ∧ lo = 0 ∧ hi = 0 ∧ c = c1 ∨ c1 = 0 ∧ c2 ≠ 0 ∧ lo = 0 ∧ hi = 0 ∧ c = c2 ∨ c1 = 0 ∧ c2 = 0 ∧ lo = min p q ∧ hi = max p q ∧ c = 0)
theorem between_any (l : Value) (x y p q c1 c2 lo hi c : Int) (w : World) (H : c1 ≠ 0 ∧ lo = 0 ∧ hi = 0 ∧ c = c1 ∨ c1 = 0 ∧ c2 ≠ 0 ∧ lo = 0 ∧ hi = 0 ∧ c = c2 ∨ c1 = 0 ∧ c2 = 0 ∧ lo = min p q ∧ hi = max p q ∧ c = 0)
  (A1 : ∀ W, Calls Tryz.prog 222 #[l, .int .i64 x] W (Ret W (.tuple #[.int .i64 p, .int .i64 c1])))
  (A2 : ∀ W, Calls Tryz.prog 222 #[l, .int .i64 y] W (Ret W (.tuple #[.int .i64 q, .int .i64 c2]))) :
  Calls Tryz.prog 221 #[.agg #[.int .i64 x, .int .i64 y], .func (.func 222) #[l] #[]] w (Ret w (.tuple #[spV lo hi, .int .i64 c])) := by
 rcases H with ⟨h, rfl, rfl, rfl⟩ | ⟨rfl, h, rfl, rfl, rfl⟩ | ⟨rfl, rfl, rfl, rfl, rfl⟩
 ·exact between_err1 l x y p c w (by simpa using h) A1
 ·exact between_err2 l x y p q c w (by simpa using h) A1 A2
 ·exact between_good l x y p q w A1 A2
set_option maxRecDepth 100000 in
set_option maxHeartbeats 4000000 in
theorem ends1_any (a r n d x y lo hi c : Int) (h : lineB a r n d = true) (H : EndsI x y (atQ a r n d x) (atE a r n d x) (atQ a r n d y) (atE a r n d y) lo hi c) (B1 B2 B3 : Nat) (w : World)
  (hc : Cells [(B1, 0, .int .i64 x), (B2, 0, .int .i64 y), (B3, 0, .int .i64 a), (B3, 1, .int .i64 r), (B3, 2, .int .i64 n), (B3, 3, .int .i64 d)] w) :
  Calls Tryz.prog 219 #[.pointer (some ⟨B1, 0, none⟩), .pointer (some ⟨B2, 0, none⟩), .pointer (some ⟨B3, 0, none⟩)] w (Ret w (.tuple #[spV lo hi, .int .i64 c])) := by
 have T1 := fun W => isTime_any x W
 have T2 := fun W => isTime_any y W
 have A1 := fun W => aat_any a r n d x h W
 have A2 := fun W => aat_any a r n d y h W
 generalize atQ a r n d x = p at *
 generalize atE a r n d x = c1 at *
 generalize atQ a r n d y = q at *
 generalize atE a r n d y = c2 at *
 have BT := fun K W => between_any (lnV a r n d) x y p q c1 c2 lo hi c W K A1 A2
 clear A1 A2 h
 have hk : Keeps w [(B1, 0, .int .i64 x), (B2, 0, .int .i64 y), (B3, 0, .int .i64 a), (B3, 1, .int .i64 r), (B3, 2, .int .i64 n), (B3, 3, .int .i64 d)] w := ⟨Below.refl _ _, hc⟩
 obtain ⟨⟨kz0,kc0,kf0⟩,⟨kz1,kc1,kf1⟩,⟨kz2,kc2,kf2⟩,⟨kz3,kc3,kf3⟩,⟨kz4,kc4,kf4⟩,⟨kz5,kc5,kf5⟩,_⟩ := hc
 rcases H with ⟨hb, rfl, rfl, rfl⟩ | ⟨t1, t2, t3, H⟩
 ·clear BT
  cases t1 : timeB x
  ·rw [t1] at T1
   replace T1 := Lib.hid T1
   clear hb T2
   go_enter Tryz.func219, Tryz.ntmps219
   go_wp2_with fail
   refine (T1.out _).mono ?_
   rintro e w1 ⟨rfl, hb⟩
   have hHeld : Keeps w [(B1, 0, .int .i64 x), (B2, 0, .int .i64 y), (B3, 0, .int .i64 a), (B3, 1, .int .i64 r), (B3, 2, .int .i64 n), (B3, 3, .int .i64 d), (w.heap.size, 0, .int .i64 0), (w.heap.size, 1, .int .i64 0)] w1 := Keeps.next ((hk.alloc _).app (newK2 (hk.alloc _))) hb
   clear hb kz0 kc0 kf0 kz1 kc1 kf1 kz2 kc2 kf2 kz3 kc3 kf3 kz4 kc4 kf4 kz5 kc5 kf5
   obtain ⟨⟨kz0,kc0,kf0⟩,⟨kz1,kc1,kf1⟩,⟨kz2,kc2,kf2⟩,⟨kz3,kc3,kf3⟩,⟨kz4,kc4,kf4⟩,⟨kz5,kc5,kf5⟩,⟨kz6,kc6,kf6⟩,⟨kz7,kc7,kf7⟩,_⟩ := hHeld.2
   skip
   go_wp2_with fail
   obtain ⟨d0, d1⟩ := set2 (W := w1) (B := w.heap.size) (u0 := .int .i64 0) (u1 := .int .i64 0) kc6 kc7
   refine bodyPost_ret (v := .tuple #[spV 0 0, .int .i64 2]) (by simp [results, Tryz.results219, go_sem, d0, d1]) rfl ?_
   exact ⟨rfl, by first | (with_reducible exact hHeld.1) | (have hB := hHeld.1; have hz := hB.size; go_grown)⟩
  ·rw [t1] at T1 hb
   cases t2 : timeB y
   ·rw [t2] at T2
    replace T1 := Lib.hid T1
    replace T2 := Lib.hid T2
    clear hb
    go_enter Tryz.func219, Tryz.ntmps219
    go_wp2_with fail
    refine (T1.out _).mono ?_
    rintro e w1 ⟨rfl, hb⟩
    have hHeld : Keeps w [(B1, 0, .int .i64 x), (B2, 0, .int .i64 y), (B3, 0, .int .i64 a), (B3, 1, .int .i64 r), (B3, 2, .int .i64 n), (B3, 3, .int .i64 d), (w.heap.size, 0, .int .i64 0), (w.heap.size, 1, .int .i64 0)] w1 := Keeps.next ((hk.alloc _).app (newK2 (hk.alloc _))) hb
    clear hb kz0 kc0 kf0 kz1 kc1 kf1 kz2 kc2 kf2 kz3 kc3 kf3 kz4 kc4 kf4 kz5 kc5 kf5
    obtain ⟨⟨kz0,kc0,kf0⟩,⟨kz1,kc1,kf1⟩,⟨kz2,kc2,kf2⟩,⟨kz3,kc3,kf3⟩,⟨kz4,kc4,kf4⟩,⟨kz5,kc5,kf5⟩,⟨kz6,kc6,kf6⟩,⟨kz7,kc7,kf7⟩,_⟩ := hHeld.2
    skip
    go_wp2_with fail
    refine (T2.out _).mono ?_
    rintro e w2 ⟨rfl, hb⟩
    replace hHeld := Keeps.next (hHeld) hb
    clear hb kz0 kc0 kf0 kz1 kc1 kf1 kz2 kc2 kf2 kz3 kc3 kf3 kz4 kc4 kf4 kz5 kc5 kf5 kz6 kc6 kf6 kz7 kc7 kf7
    obtain ⟨⟨kz0,kc0,kf0⟩,⟨kz1,kc1,kf1⟩,⟨kz2,kc2,kf2⟩,⟨kz3,kc3,kf3⟩,⟨kz4,kc4,kf4⟩,⟨kz5,kc5,kf5⟩,⟨kz6,kc6,kf6⟩,⟨kz7,kc7,kf7⟩,_⟩ := hHeld.2
    go_wp2_with fail
    obtain ⟨d0, d1⟩ := set2 (W := w2) (B := w.heap.size) (u0 := .int .i64 0) (u1 := .int .i64 0) kc6 kc7
    refine bodyPost_ret (v := .tuple #[spV 0 0, .int .i64 2]) (by simp [results, Tryz.results219, go_sem, d0, d1]) rfl ?_
    exact ⟨rfl, by first | (with_reducible exact hHeld.1) | (have hB := hHeld.1; have hz := hB.size; go_grown)⟩
   ·rw [t2] at T2 hb
    have t3 : decide (y < x) = true := by simpa using hb
    replace T1 := Lib.hid T1
    replace T2 := Lib.hid T2
    clear hb
    go_enter Tryz.func219, Tryz.ntmps219
    go_wp2_with fail
    refine (T1.out _).mono ?_
    rintro e w1 ⟨rfl, hb⟩
    have hHeld : Keeps w [(B1, 0, .int .i64 x), (B2, 0, .int .i64 y), (B3, 0, .int .i64 a), (B3, 1, .int .i64 r), (B3, 2, .int .i64 n), (B3, 3, .int .i64 d), (w.heap.size, 0, .int .i64 0), (w.heap.size, 1, .int .i64 0)] w1 := Keeps.next ((hk.alloc _).app (newK2 (hk.alloc _))) hb
    clear hb kz0 kc0 kf0 kz1 kc1 kf1 kz2 kc2 kf2 kz3 kc3 kf3 kz4 kc4 kf4 kz5 kc5 kf5
    obtain ⟨⟨kz0,kc0,kf0⟩,⟨kz1,kc1,kf1⟩,⟨kz2,kc2,kf2⟩,⟨kz3,kc3,kf3⟩,⟨kz4,kc4,kf4⟩,⟨kz5,kc5,kf5⟩,⟨kz6,kc6,kf6⟩,⟨kz7,kc7,kf7⟩,_⟩ := hHeld.2
    skip
    go_wp2_with fail
    refine (T2.out _).mono ?_
    rintro e w2 ⟨rfl, hb⟩
    replace hHeld := Keeps.next (hHeld) hb
    clear hb kz0 kc0 kf0 kz1 kc1 kf1 kz2 kc2 kf2 kz3 kc3 kf3 kz4 kc4 kf4 kz5 kc5 kf5 kz6 kc6 kf6 kz7 kc7 kf7
    obtain ⟨⟨kz0,kc0,kf0⟩,⟨kz1,kc1,kf1⟩,⟨kz2,kc2,kf2⟩,⟨kz3,kc3,kf3⟩,⟨kz4,kc4,kf4⟩,⟨kz5,kc5,kf5⟩,⟨kz6,kc6,kf6⟩,⟨kz7,kc7,kf7⟩,_⟩ := hHeld.2
    go_wp2_with fail
    obtain ⟨d0, d1⟩ := set2 (W := w2) (B := w.heap.size) (u0 := .int .i64 0) (u1 := .int .i64 0) kc6 kc7
    refine bodyPost_ret (v := .tuple #[spV 0 0, .int .i64 2]) (by simp [results, Tryz.results219, go_sem, d0, d1]) rfl ?_
    exact ⟨rfl, by first | (with_reducible exact hHeld.1) | (have hB := hHeld.1; have hz := hB.size; go_grown)⟩
 ·rw [t1] at T1
  rw [t2] at T2
  replace T1 := Lib.hid T1
  replace T2 := Lib.hid T2
  have BU := Lib.hid (BT H)
  clear BT H
  have t4 : decide (y < x) = false := by simp; omega
  go_enter Tryz.func219, Tryz.ntmps219
  go_wp2_with fail
  refine (T1.out _).mono ?_
  rintro e w1 ⟨rfl, hb⟩
  have hHeld : Keeps w [(B1, 0, .int .i64 x), (B2, 0, .int .i64 y), (B3, 0, .int .i64 a), (B3, 1, .int .i64 r), (B3, 2, .int .i64 n), (B3, 3, .int .i64 d), (w.heap.size, 0, .int .i64 0), (w.heap.size, 1, .int .i64 0)] w1 := Keeps.next ((hk.alloc _).app (newK2 (hk.alloc _))) hb
  clear hb kz0 kc0 kf0 kz1 kc1 kf1 kz2 kc2 kf2 kz3 kc3 kf3 kz4 kc4 kf4 kz5 kc5 kf5
  obtain ⟨⟨kz0,kc0,kf0⟩,⟨kz1,kc1,kf1⟩,⟨kz2,kc2,kf2⟩,⟨kz3,kc3,kf3⟩,⟨kz4,kc4,kf4⟩,⟨kz5,kc5,kf5⟩,⟨kz6,kc6,kf6⟩,⟨kz7,kc7,kf7⟩,_⟩ := hHeld.2
  skip
  go_wp2_with fail
  refine (T2.out _).mono ?_
  rintro e w2 ⟨rfl, hb⟩
  replace hHeld := Keeps.next (hHeld) hb
  clear hb kz0 kc0 kf0 kz1 kc1 kf1 kz2 kc2 kf2 kz3 kc3 kf3 kz4 kc4 kf4 kz5 kc5 kf5 kz6 kc6 kf6 kz7 kc7 kf7
  obtain ⟨⟨kz0,kc0,kf0⟩,⟨kz1,kc1,kf1⟩,⟨kz2,kc2,kf2⟩,⟨kz3,kc3,kf3⟩,⟨kz4,kc4,kf4⟩,⟨kz5,kc5,kf5⟩,⟨kz6,kc6,kf6⟩,⟨kz7,kc7,kf7⟩,_⟩ := hHeld.2
  go_wp2_with fail
  refine (BU.out _).mono ?_
  rintro e w3 ⟨rfl, hb⟩
  replace hHeld := Keeps.next (hHeld) hb
  clear hb kz0 kc0 kf0 kz1 kc1 kf1 kz2 kc2 kf2 kz3 kc3 kf3 kz4 kc4 kf4 kz5 kc5 kf5 kz6 kc6 kf6 kz7 kc7 kf7
  obtain ⟨⟨kz0,kc0,kf0⟩,⟨kz1,kc1,kf1⟩,⟨kz2,kc2,kf2⟩,⟨kz3,kc3,kf3⟩,⟨kz4,kc4,kf4⟩,⟨kz5,kc5,kf5⟩,⟨kz6,kc6,kf6⟩,⟨kz7,kc7,kf7⟩,_⟩ := hHeld.2
  go_wp2_with fail
  obtain ⟨d0, d1⟩ := set2 (W := w3) (B := w.heap.size) (u0 := .int .i64 lo) (u1 := .int .i64 hi) kc6 kc7
  refine bodyPost_ret (v := .tuple #[spV lo hi, .int .i64 c]) (by simp [results, Tryz.results219, go_sem, d0, d1]) rfl ?_
  exact ⟨rfl, by first | (with_reducible exact hHeld.1) | (have hB := hHeld.1; have hz := hB.size; go_grown)⟩
set_option maxRecDepth 100000 in
theorem unlessP_no (e : Int) (f : Value) (h : (e == 0) = false) (w : World) : Calls Tryz.prog 218 #[.int .i64 e, f] w (Ret w (.tuple #[spV 0 0, .int .i64 e])) := by
 go_enter Tryz.func218, Tryz.ntmps218
 go_wp2
 go_returns
 exact ⟨rfl, by go_grown⟩
set_option maxRecDepth 100000 in
theorem unlessP_ends (p1 p2 p3 : Value) (x y c : Int) (w : World) (C : ∀ W, Below w.heap.size w W → Calls Tryz.prog 219 #[p1, p2, p3] W (Ret W (.tuple #[spV x y, .int .i64 c]))) :
  Calls Tryz.prog 218 #[.int .i64 0, .func (.func 219) #[] #[p1, p2, p3]] w (Ret w (.tuple #[spV x y, .int .i64 c])) := by
 replace C := Lib.hid C
 go_enter Tryz.func218, Tryz.ntmps218
 go_wp2_with fail
 refine (C.out _ (by go_grown)).mono ?_
 rintro e w1 ⟨rfl, hb⟩
 have hHeld : Keeps w [(w.heap.size, 0, .int .i64 0), (w.heap.size, 1, .int .i64 0)] _ := Keeps.next (by refine ⟨by go_grown, ?_⟩; simp [Cells, go_sem]) hb
 clear hb
 obtain ⟨⟨kz0, kc0, kf0⟩, ⟨kz1, kc1, kf1⟩, _⟩ := hHeld.2
 go_wp2_with fail
 obtain ⟨d0, d1⟩ := set2 (W := w1) (B := w.heap.size) (u0 := .int .i64 x) (u1 := .int .i64 y) kc0 kc1
 refine bodyPost_ret (v := .tuple #[spV x y, .int .i64 c]) (by simp [results, Tryz.results218, go_sem, d0, d1]) rfl ?_
 exact ⟨rfl, by first | (with_reducible exact hHeld.1) | (have hB := hHeld.1; have hz := hB.size; go_grown)⟩
set_option maxRecDepth 100000 in
set_option maxHeartbeats 4000000 in
theorem ends_any (a r n d x y lo hi c : Int) (H : lineB a r n d = false ∧ lo = 0 ∧ hi = 0 ∧ c = 150 ∨ lineB a r n d = true ∧ EndsI x y (atQ a r n d x) (atE a r n d x) (atQ a r n d y) (atE a r n d y) lo hi c) (w : World) :
  Calls Tryz.prog 198 #[lnV a r n d, .int .i64 x, .int .i64 y] w (Ret w (.tuple #[spV lo hi, .int .i64 c])) := by
 have CK := fun W => lcheck_any a r n d W
 rcases H with ⟨h, rfl, rfl, rfl⟩ | ⟨h, H⟩
 ·rw [if_neg (by simp [h])] at CK
  replace CK := Lib.hid CK
  have UN := Lib.hid (fun f W => unlessP_no 150 f (by decide) W)
  clear h
  go_enter Tryz.func198, Tryz.ntmps198
  go_wp2_with fail
  refine (CK.out _).mono ?_
  rintro e w1 ⟨rfl, hb⟩
  have hHeld : Keeps w [(w.heap.size + 3, 0, .int .i64 0), (w.heap.size + 3, 1, .int .i64 0)] _ := Keeps.next (by refine ⟨by go_grown, ?_⟩; simp [Cells, go_sem]) hb
  clear hb
  obtain ⟨⟨kz0, kc0, kf0⟩, ⟨kz1, kc1, kf1⟩, _⟩ := hHeld.2
  go_wp2_with fail
  refine (UN.out _ _).mono ?_
  rintro e w2 ⟨rfl, hb⟩
  replace hHeld := Keeps.next (hHeld) hb
  clear hb kz0 kc0 kf0 kz1 kc1 kf1
  obtain ⟨⟨kz0, kc0, kf0⟩, ⟨kz1, kc1, kf1⟩, _⟩ := hHeld.2
  go_wp2_with fail
  obtain ⟨d0, d1⟩ := set2 (W := w2) (B := w.heap.size + 3) (u0 := .int .i64 0) (u1 := .int .i64 0) kc0 kc1
  refine bodyPost_ret (v := .tuple #[spV 0 0, .int .i64 150]) (by simp [results, Tryz.results198, go_sem, d0, d1]) rfl ?_
  exact ⟨rfl, by first | (with_reducible exact hHeld.1) | (have hB := hHeld.1; have hz := hB.size; go_grown)⟩
 ·rw [if_pos h] at CK
  have E1 := Lib.hid (fun B1 B2 B3 W k => ends1_any a r n d x y lo hi c h H B1 B2 B3 W k)
  replace CK := Lib.hid CK
  have UN := Lib.hid (fun p1 p2 p3 W k => unlessP_ends p1 p2 p3 lo hi c W k)
  clear h H
  go_enter Tryz.func198, Tryz.ntmps198
  go_wp2_with fail
  refine (CK.out _).mono ?_
  rintro e w1 ⟨rfl, hb⟩
  have hHeld : Keeps w [(w.heap.size + 3, 0, .int .i64 0), (w.heap.size + 3, 1, .int .i64 0), (w.heap.size + 1, 0, .int .i64 x), (w.heap.size + 2, 0, .int .i64 y), (w.heap.size, 0, .int .i64 a), (w.heap.size, 1, .int .i64 r), (w.heap.size, 2, .int .i64 n), (w.heap.size, 3, .int .i64 d)] _ := Keeps.next (by refine ⟨by go_grown, ?_⟩; simp [Cells, go_sem]) hb
  clear hb
  obtain ⟨⟨kz0,kc0,kf0⟩,⟨kz1,kc1,kf1⟩,⟨kz2,kc2,kf2⟩,⟨kz3,kc3,kf3⟩,⟨kz4,kc4,kf4⟩,⟨kz5,kc5,kf5⟩,⟨kz6,kc6,kf6⟩,⟨kz7,kc7,kf7⟩,_⟩ := hHeld.2
  go_wp2_with fail
  refine Calls.mono (UN.out _ _ _ _ ?_) ?_
  ·intro W hW
   exact E1.out _ _ _ _ (hHeld.2.next hW).2.2
  rintro e w2 ⟨rfl, hb⟩
  replace hHeld := Keeps.next (hHeld) hb
  clear hb kz0 kc0 kf0 kz1 kc1 kf1 kz2 kc2 kf2 kz3 kc3 kf3 kz4 kc4 kf4 kz5 kc5 kf5 kz6 kc6 kf6 kz7 kc7 kf7
  obtain ⟨⟨kz0,kc0,kf0⟩,⟨kz1,kc1,kf1⟩,⟨kz2,kc2,kf2⟩,⟨kz3,kc3,kf3⟩,⟨kz4,kc4,kf4⟩,⟨kz5,kc5,kf5⟩,⟨kz6,kc6,kf6⟩,⟨kz7,kc7,kf7⟩,_⟩ := hHeld.2
  go_wp2_with fail
  obtain ⟨d0, d1⟩ := set2 (W := w2) (B := w.heap.size + 3) (u0 := .int .i64 lo) (u1 := .int .i64 hi) kc0 kc1
  refine bodyPost_ret (v := .tuple #[spV lo hi, .int .i64 c]) (by simp [results, Tryz.results198, go_sem, d0, d1]) rfl ?_
  exact ⟨rfl, by first | (with_reducible exact hHeld.1) | (have hB := hHeld.1; have hz := hB.size; go_grown)⟩
end Go.Proofs.YtcfidimnbamnkaaGreat
