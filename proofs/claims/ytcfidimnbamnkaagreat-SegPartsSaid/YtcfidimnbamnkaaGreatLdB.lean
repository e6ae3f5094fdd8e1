/-
 The document's own answers for layer 5: which lines may be, and their exact values, times D. Conditions: the numbers are of 64 bits.
-/
import Derived.Test.YtcfidimnbamnkaaGreatKitV
import Derived.Test.YtcfidimnbamnkaaGreatKitW
import Derived.Maps.RangeWalk
import Derived.Test.YtcfidimnbamnkaaGreatLC
import Derived.Test.YtcfidimnbamnkaaGreatLdA
import Derived.Test.YtcfidimnbamnkaaGreatRB
namespace Go.Proofs.YtcfidimnbamnkaaGreat
open Go.RowKit

set_option maxRecDepth 100000 in
set_option maxHeartbeats 4000000 in
theorem refRight_any (a r n d : Int) (w : World) : Calls Tryz.prog 22 #[lnV a r n d] w (Ret w (.bool (lineB a r n d))) := by
 have BK := fun W => refBack_any a W
 have SL := fun W => refSlope_any n d W
 have LO := fun h W => refLowest_any n d h W
 have LI := lineB_iff a r n d
 obtain ⟨R, hR⟩ : ∃ R, R = lineB a r n d := ⟨_, rfl⟩
 rw [← hR] at LI ⊢
 clear hR
 cases gb : backB a
 ·have e : R = false := by rw [← Bool.not_eq_true, LI, gb]; simp
  rw [gb] at BK
  replace BK := Lib.hid BK
  subst e
  clear LI SL LO gb
  go_enter Tryz.func22, Tryz.ntmps22
  go_wp2_with fail
  refine region_keeps (w0 := w) (L := [(w.heap.size, 0, .int .i64 a), (w.heap.size, 1, .int .i64 r), (w.heap.size, 2, .int .i64 n), (w.heap.size, 3, .int .i64 d), (w.heap.size + 1, 0, .int .i64 n), (w.heap.size + 1, 1, .int .i64 d)]) (by kernel_rfl) (by first | exact hHeld | (refine ⟨by go_grown, ?_⟩; simp [Cells, go_sem]; done)) (fun hHeld0 => ?_)
  refine tv 0 9 rfl rfl ?_
  try go_frame
  refine tk 1 10 rfl rfl ?_ ?_ ?_
  rotate_left
  ·intro wq hSw; obtain ⟨⟨_,_,_⟩,⟨_,_,_⟩,⟨_,_,_⟩,⟨_,_,_⟩,⟨_,_,_⟩,⟨_,_,_⟩,_⟩ := hSw.2; go_simp; (try with_reducible rfl)
  try go_frame
  refine tw 2 rfl fun K hK => ?_
  go_simp
  (with_reducible refine Calls.mono (BK.out _) ?_); rintro e w5 ⟨rfl, hb⟩
  refine hK.out _ _ (hHeld0.next hb) (fun hHeld1 => ?_)
  clear hK K; try clear hb
  try go_frame
  refine tv 3 12 rfl rfl ?_
  try go_frame
  refine tu 4 13 rfl rfl ?_
  try go_frame
  refine tu 5 14 rfl rfl ?_
  try go_frame
  refine tv 6 15 rfl rfl ?_
  try go_frame
  refine tv 7 16 rfl rfl ?_
  try go_frame
  refine tu 8 17 rfl rfl ?_
  try go_frame
  refine tu 9 18 rfl rfl ?_
  try go_frame
  refine tu 10 19 rfl rfl ?_
  try go_frame
  refine tu 11 20 rfl rfl ?_
  try go_frame
  refine tv 12 21 rfl rfl ?_
  try go_frame
  refine tv 13 22 rfl rfl ?_
  try go_frame
  refine tu 14 23 rfl rfl ?_
  try go_frame
  refine tu 15 24 rfl rfl ?_
  try go_frame
  refine tu 16 25 rfl rfl ?_
  try go_frame
  refine tv 17 26 rfl rfl ?_
  try go_frame
  refine tv 18 27 rfl rfl ?_
  try go_frame
  refine tu 19 28 rfl rfl ?_
  try go_frame
  refine tu 20 29 rfl rfl ?_
  try go_frame
  refine tu 21 30 rfl rfl ?_
  try go_frame
  refine tu 22 31 rfl rfl ?_
  try go_frame
  refine tu 23 32 rfl rfl ?_
  try go_frame
  refine tv 24 33 rfl rfl ?_
  try go_frame
  refine tv 25 2 rfl rfl ?_
  try go_frame
  refine wpAnyH_done (by kernel_rfl) ?_ _
  have hHeld := hHeld1
  obtain ⟨⟨_,_,_⟩,⟨_,_,_⟩,⟨_,_,_⟩,⟨_,_,_⟩,⟨_,_,_⟩,⟨_,_,_⟩,_⟩ := hHeld.2
  all_goals
   go_wp2_with fail
   go_ret
   exact ⟨rfl, hHeld.1⟩
 ·rw [gb] at BK
  replace BK := Lib.hid BK
  cases gs : slopeB n d
  ·have e : R = false := by rw [← Bool.not_eq_true, LI, gs]; simp
   rw [gs] at SL
   replace SL := Lib.hid SL
   subst e
   clear LI LO gb gs
   go_enter Tryz.func22, Tryz.ntmps22
   go_wp2_with fail
   refine region_keeps (w0 := w) (L := [(w.heap.size, 0, .int .i64 a), (w.heap.size, 1, .int .i64 r), (w.heap.size, 2, .int .i64 n), (w.heap.size, 3, .int .i64 d), (w.heap.size + 1, 0, .int .i64 n), (w.heap.size + 1, 1, .int .i64 d)]) (by kernel_rfl) (by first | exact hHeld | (refine ⟨by go_grown, ?_⟩; simp [Cells, go_sem]; done)) (fun hHeld0 => ?_)
   refine tv 0 9 rfl rfl ?_
   try go_frame
   refine tk 1 10 rfl rfl ?_ ?_ ?_
   rotate_left
   ·intro wq hSw; obtain ⟨⟨_,_,_⟩,⟨_,_,_⟩,⟨_,_,_⟩,⟨_,_,_⟩,⟨_,_,_⟩,⟨_,_,_⟩,_⟩ := hSw.2; go_simp; (try with_reducible rfl)
   try go_frame
   refine tw 2 rfl fun K hK => ?_
   go_simp
   (with_reducible refine Calls.mono (BK.out _) ?_); rintro e w5 ⟨rfl, hb⟩
   refine hK.out _ _ (hHeld0.next hb) (fun hHeld1 => ?_)
   clear hK K; try clear hb
   try go_frame
   refine tv 3 12 rfl rfl ?_
   try go_frame
   refine tk 4 13 rfl rfl ?_ ?_ ?_
   rotate_left
   ·intro wq hSw; obtain ⟨⟨_,_,_⟩,⟨_,_,_⟩,⟨_,_,_⟩,⟨_,_,_⟩,⟨_,_,_⟩,⟨_,_,_⟩,_⟩ := hSw.2; go_simp; (try with_reducible rfl)
   try go_frame
   refine tw 5 rfl fun K hK => ?_
   go_simp
   (with_reducible refine Calls.mono (SL.out _) ?_); rintro e w6 ⟨rfl, hb⟩
   refine hK.out _ _ (hHeld1.next hb) (fun hHeld2 => ?_)
   clear hK K; try clear hb
   try go_frame
   refine tv 6 15 rfl rfl ?_
   try go_frame
   refine tv 7 16 rfl rfl ?_
   try go_frame
   refine tu 8 17 rfl rfl ?_
   try go_frame
   refine tu 9 18 rfl rfl ?_
   try go_frame
   refine tu 10 19 rfl rfl ?_
   try go_frame
   refine tu 11 20 rfl rfl ?_
   try go_frame
   refine tv 12 21 rfl rfl ?_
   try go_frame
   refine tv 13 22 rfl rfl ?_
   try go_frame
   refine tu 14 23 rfl rfl ?_
   try go_frame
   refine tu 15 24 rfl rfl ?_
   try go_frame
   refine tu 16 25 rfl rfl ?_
   try go_frame
   refine tv 17 26 rfl rfl ?_
   try go_frame
   refine tv 18 27 rfl rfl ?_
   try go_frame
   refine tu 19 28 rfl rfl ?_
   try go_frame
   refine tu 20 29 rfl rfl ?_
   try go_frame
   refine tu 21 30 rfl rfl ?_
   try go_frame
   refine tu 22 31 rfl rfl ?_
   try go_frame
   refine tu 23 32 rfl rfl ?_
   try go_frame
   refine tv 24 33 rfl rfl ?_
   try go_frame
   refine tv 25 2 rfl rfl ?_
   try go_frame
   refine wpAnyH_done (by kernel_rfl) ?_ _
   have hHeld := hHeld2
   obtain ⟨⟨_,_,_⟩,⟨_,_,_⟩,⟨_,_,_⟩,⟨_,_,_⟩,⟨_,_,_⟩,⟨_,_,_⟩,_⟩ := hHeld.2
   all_goals
    go_wp2_with fail
    go_ret
    exact ⟨rfl, hHeld.1⟩
  ·rw [gs] at SL
   replace SL := Lib.hid SL
   replace LO := Lib.hid (LO gs)
   generalize lowN n d = x at *
   generalize lowD n d = y at *
   by_cases g1 : x = n
   ·have t1 : (x == n) = true := by simpa using g1
    by_cases g2 : y = d
    ·have t2 : (y == d) = true := by simpa using g2
     have LJ : R = true ↔ 0 ≤ r ∧ r < d := by rw [LI]; simp [gs, g1, g2, gb]
     clear LI gs gb
     subst g1 g2
     cases g3 : decide (0 ≤ r)
     ·have e : R = false := by
       have : ¬ 0 ≤ r := by simpa using g3
       rw [← Bool.not_eq_true, LJ]
       omega
      subst e
      clear LJ
      go_enter Tryz.func22, Tryz.ntmps22
      go_wp2_with fail
      refine region_keeps (w0 := w) (L := [(w.heap.size, 0, .int .i64 a), (w.heap.size, 1, .int .i64 r), (w.heap.size, 2, .int .i64 x), (w.heap.size, 3, .int .i64 y), (w.heap.size + 1, 0, .int .i64 x), (w.heap.size + 1, 1, .int .i64 y)]) (by kernel_rfl) (by first | exact hHeld | (refine ⟨by go_grown, ?_⟩; simp [Cells, go_sem]; done)) (fun hHeld0 => ?_)
      refine tv 0 9 rfl rfl ?_
      try go_frame
      refine tk 1 10 rfl rfl ?_ ?_ ?_
      rotate_left
      ·intro wq hSw; obtain ⟨⟨_,_,_⟩,⟨_,_,_⟩,⟨_,_,_⟩,⟨_,_,_⟩,⟨_,_,_⟩,⟨_,_,_⟩,_⟩ := hSw.2; go_simp; (try with_reducible rfl)
      try go_frame
      refine tw 2 rfl fun K hK => ?_
      go_simp
      (with_reducible refine Calls.mono (BK.out _) ?_); rintro e w5 ⟨rfl, hb⟩
      refine hK.out _ _ (hHeld0.next hb) (fun hHeld1 => ?_)
      clear hK K; try clear hb
      try go_frame
      refine tv 3 12 rfl rfl ?_
      try go_frame
      refine tk 4 13 rfl rfl ?_ ?_ ?_
      rotate_left
      ·intro wq hSw; obtain ⟨⟨_,_,_⟩,⟨_,_,_⟩,⟨_,_,_⟩,⟨_,_,_⟩,⟨_,_,_⟩,⟨_,_,_⟩,_⟩ := hSw.2; go_simp; (try with_reducible rfl)
      try go_frame
      refine tw 5 rfl fun K hK => ?_
      go_simp
      (with_reducible refine Calls.mono (SL.out _) ?_); rintro e w6 ⟨rfl, hb⟩
      refine hK.out _ _ (hHeld1.next hb) (fun hHeld2 => ?_)
      clear hK K; try clear hb
      try go_frame
      refine tv 6 15 rfl rfl ?_
      try go_frame
      refine tv 7 16 rfl rfl ?_
      try go_frame
      refine tk 8 17 rfl rfl ?_ ?_ ?_
      rotate_left
      ·intro wq hSw; obtain ⟨⟨_,_,_⟩,⟨_,_,_⟩,⟨_,_,_⟩,⟨_,_,_⟩,⟨_,_,_⟩,⟨_,_,_⟩,_⟩ := hSw.2; go_simp; (try with_reducible rfl)
      try go_frame
      refine tk 10 19 rfl rfl ?_ ?_ ?_
      rotate_left
      ·intro wq hSw; obtain ⟨⟨_,_,_⟩,⟨_,_,_⟩,⟨_,_,_⟩,⟨_,_,_⟩,⟨_,_,_⟩,⟨_,_,_⟩,_⟩ := hSw.2; go_simp; (try with_reducible rfl)
      try go_frame
      refine tw 9 rfl fun K hK => ?_
      go_simp
      (with_reducible refine Calls.mono (LO.out _) ?_); rintro e w7 ⟨rfl, hb⟩
      refine hK.out _ _ (hHeld2.next hb) (fun hHeld3 => ?_)
      clear hK K; try clear hb
      try go_frame
      refine tv 11 20 rfl rfl ?_
      try go_frame
      refine tv 12 21 rfl rfl ?_
      try go_frame
      refine tv 13 22 rfl rfl ?_
      try go_frame
      refine tv 14 23 rfl rfl ?_
      try go_frame
      refine tk 15 24 rfl rfl ?_ ?_ ?_
      rotate_left
      ·intro wq hSw; obtain ⟨⟨_,_,_⟩,⟨_,_,_⟩,⟨_,_,_⟩,⟨_,_,_⟩,⟨_,_,_⟩,⟨_,_,_⟩,_⟩ := hSw.2; go_simp; (try with_reducible rfl)
      try go_frame
      refine tv 16 25 rfl rfl ?_
      try go_frame
      refine tv 17 26 rfl rfl ?_
      try go_frame
      refine tv 18 27 rfl rfl ?_
      try go_frame
      refine tu 19 28 rfl rfl ?_
      try go_frame
      refine tu 20 29 rfl rfl ?_
      try go_frame
      refine tu 21 30 rfl rfl ?_
      try go_frame
      refine tu 22 31 rfl rfl ?_
      try go_frame
      refine tu 23 32 rfl rfl ?_
      try go_frame
      refine tv 24 33 rfl rfl ?_
      try go_frame
      refine tv 25 2 rfl rfl ?_
      try go_frame
      refine wpAnyH_done (by kernel_rfl) ?_ _
      have hHeld := hHeld3
      obtain ⟨⟨_,_,_⟩,⟨_,_,_⟩,⟨_,_,_⟩,⟨_,_,_⟩,⟨_,_,_⟩,⟨_,_,_⟩,_⟩ := hHeld.2
      all_goals
       go_wp2_with fail
       go_ret
       exact ⟨rfl, hHeld.1⟩
     ·have e : R = decide (r < y) := by
       have h0 : 0 ≤ r := by simpa using g3
       rw [Bool.eq_iff_iff, LJ, decide_eq_true_eq]
       omega
      subst e
      clear LJ
      go_enter Tryz.func22, Tryz.ntmps22
      go_wp2_with fail
      refine region_keeps (w0 := w) (L := [(w.heap.size, 0, .int .i64 a), (w.heap.size, 1, .int .i64 r), (w.heap.size, 2, .int .i64 x), (w.heap.size, 3, .int .i64 y), (w.heap.size + 1, 0, .int .i64 x), (w.heap.size + 1, 1, .int .i64 y)]) (by kernel_rfl) (by first | exact hHeld | (refine ⟨by go_grown, ?_⟩; simp [Cells, go_sem]; done)) (fun hHeld0 => ?_)
      refine tv 0 9 rfl rfl ?_
      try go_frame
      refine tk 1 10 rfl rfl ?_ ?_ ?_
      rotate_left
      ·intro wq hSw; obtain ⟨⟨_,_,_⟩,⟨_,_,_⟩,⟨_,_,_⟩,⟨_,_,_⟩,⟨_,_,_⟩,⟨_,_,_⟩,_⟩ := hSw.2; go_simp; (try with_reducible rfl)
      try go_frame
      refine tw 2 rfl fun K hK => ?_
      go_simp
      (with_reducible refine Calls.mono (BK.out _) ?_); rintro e w5 ⟨rfl, hb⟩
      refine hK.out _ _ (hHeld0.next hb) (fun hHeld1 => ?_)
      clear hK K; try clear hb
      try go_frame
      refine tv 3 12 rfl rfl ?_
      try go_frame
      refine tk 4 13 rfl rfl ?_ ?_ ?_
      rotate_left
      ·intro wq hSw; obtain ⟨⟨_,_,_⟩,⟨_,_,_⟩,⟨_,_,_⟩,⟨_,_,_⟩,⟨_,_,_⟩,⟨_,_,_⟩,_⟩ := hSw.2; go_simp; (try with_reducible rfl)
      try go_frame
      refine tw 5 rfl fun K hK => ?_
      go_simp
      (with_reducible refine Calls.mono (SL.out _) ?_); rintro e w6 ⟨rfl, hb⟩
      refine hK.out _ _ (hHeld1.next hb) (fun hHeld2 => ?_)
      clear hK K; try clear hb
      try go_frame
      refine tv 6 15 rfl rfl ?_
      try go_frame
      refine tv 7 16 rfl rfl ?_
      try go_frame
      refine tk 8 17 rfl rfl ?_ ?_ ?_
      rotate_left
      ·intro wq hSw; obtain ⟨⟨_,_,_⟩,⟨_,_,_⟩,⟨_,_,_⟩,⟨_,_,_⟩,⟨_,_,_⟩,⟨_,_,_⟩,_⟩ := hSw.2; go_simp; (try with_reducible rfl)
      try go_frame
      refine tk 10 19 rfl rfl ?_ ?_ ?_
      rotate_left
      ·intro wq hSw; obtain ⟨⟨_,_,_⟩,⟨_,_,_⟩,⟨_,_,_⟩,⟨_,_,_⟩,⟨_,_,_⟩,⟨_,_,_⟩,_⟩ := hSw.2; go_simp; (try with_reducible rfl)
      try go_frame
      refine tw 9 rfl fun K hK => ?_
      go_simp
      (with_reducible refine Calls.mono (LO.out _) ?_); rintro e w7 ⟨rfl, hb⟩
      refine hK.out _ _ (hHeld2.next hb) (fun hHeld3 => ?_)
      clear hK K; try clear hb
      try go_frame
      refine tv 11 20 rfl rfl ?_
      try go_frame
      refine tv 12 21 rfl rfl ?_
      try go_frame
      refine tv 13 22 rfl rfl ?_
      try go_frame
      refine tv 14 23 rfl rfl ?_
      try go_frame
      refine tk 15 24 rfl rfl ?_ ?_ ?_
      rotate_left
      ·intro wq hSw; obtain ⟨⟨_,_,_⟩,⟨_,_,_⟩,⟨_,_,_⟩,⟨_,_,_⟩,⟨_,_,_⟩,⟨_,_,_⟩,_⟩ := hSw.2; go_simp; (try with_reducible rfl)
      try go_frame
      refine tv 16 25 rfl rfl ?_
      try go_frame
      refine tv 17 26 rfl rfl ?_
      try go_frame
      refine tv 18 27 rfl rfl ?_
      try go_frame
      refine tv 19 28 rfl rfl ?_
      try go_frame
      refine tk 20 29 rfl rfl ?_ ?_ ?_
      rotate_left
      ·intro wq hSw; obtain ⟨⟨_,_,_⟩,⟨_,_,_⟩,⟨_,_,_⟩,⟨_,_,_⟩,⟨_,_,_⟩,⟨_,_,_⟩,_⟩ := hSw.2; go_simp; (try with_reducible rfl)
      try go_frame
      refine tv 21 30 rfl rfl ?_
      try go_frame
      refine tk 22 31 rfl rfl ?_ ?_ ?_
      rotate_left
      ·intro wq hSw; obtain ⟨⟨_,_,_⟩,⟨_,_,_⟩,⟨_,_,_⟩,⟨_,_,_⟩,⟨_,_,_⟩,⟨_,_,_⟩,_⟩ := hSw.2; go_simp; (try with_reducible rfl)
      try go_frame
      refine tv 23 32 rfl rfl ?_
      try go_frame
      refine tv 24 33 rfl rfl ?_
      try go_frame
      refine tv 25 2 rfl rfl ?_
      try go_frame
      refine wpAnyH_done (by kernel_rfl) ?_ _
      have hHeld := hHeld3
      obtain ⟨⟨_,_,_⟩,⟨_,_,_⟩,⟨_,_,_⟩,⟨_,_,_⟩,⟨_,_,_⟩,⟨_,_,_⟩,_⟩ := hHeld.2
      all_goals
       go_wp2_with fail
       go_ret
       exact ⟨rfl, hHeld.1⟩
    ·have t2 : (y == d) = false := by simpa using g2
     have e : R = false := by rw [← Bool.not_eq_true, LI]; simp [g2]
     subst e
     clear LI gs gb
     subst g1
     go_enter Tryz.func22, Tryz.ntmps22
     go_wp2_with fail
     refine region_keeps (w0 := w) (L := [(w.heap.size, 0, .int .i64 a), (w.heap.size, 1, .int .i64 r), (w.heap.size, 2, .int .i64 x), (w.heap.size, 3, .int .i64 d), (w.heap.size + 1, 0, .int .i64 x), (w.heap.size + 1, 1, .int .i64 d)]) (by kernel_rfl) (by first | exact hHeld | (refine ⟨by go_grown, ?_⟩; simp [Cells, go_sem]; done)) (fun hHeld0 => ?_)
     refine tv 0 9 rfl rfl ?_
     try go_frame
     refine tk 1 10 rfl rfl ?_ ?_ ?_
     rotate_left
     ·intro wq hSw; obtain ⟨⟨_,_,_⟩,⟨_,_,_⟩,⟨_,_,_⟩,⟨_,_,_⟩,⟨_,_,_⟩,⟨_,_,_⟩,_⟩ := hSw.2; go_simp; (try with_reducible rfl)
     try go_frame
     refine tw 2 rfl fun K hK => ?_
     go_simp
     (with_reducible refine Calls.mono (BK.out _) ?_); rintro e w5 ⟨rfl, hb⟩
     refine hK.out _ _ (hHeld0.next hb) (fun hHeld1 => ?_)
     clear hK K; try clear hb
     try go_frame
     refine tv 3 12 rfl rfl ?_
     try go_frame
     refine tk 4 13 rfl rfl ?_ ?_ ?_
     rotate_left
     ·intro wq hSw; obtain ⟨⟨_,_,_⟩,⟨_,_,_⟩,⟨_,_,_⟩,⟨_,_,_⟩,⟨_,_,_⟩,⟨_,_,_⟩,_⟩ := hSw.2; go_simp; (try with_reducible rfl)
     try go_frame
     refine tw 5 rfl fun K hK => ?_
     go_simp
     (with_reducible refine Calls.mono (SL.out _) ?_); rintro e w6 ⟨rfl, hb⟩
     refine hK.out _ _ (hHeld1.next hb) (fun hHeld2 => ?_)
     clear hK K; try clear hb
     try go_frame
     refine tv 6 15 rfl rfl ?_
     try go_frame
     refine tv 7 16 rfl rfl ?_
     try go_frame
     refine tk 8 17 rfl rfl ?_ ?_ ?_
     rotate_left
     ·intro wq hSw; obtain ⟨⟨_,_,_⟩,⟨_,_,_⟩,⟨_,_,_⟩,⟨_,_,_⟩,⟨_,_,_⟩,⟨_,_,_⟩,_⟩ := hSw.2; go_simp; (try with_reducible rfl)
     try go_frame
     refine tk 10 19 rfl rfl ?_ ?_ ?_
     rotate_left
     ·intro wq hSw; obtain ⟨⟨_,_,_⟩,⟨_,_,_⟩,⟨_,_,_⟩,⟨_,_,_⟩,⟨_,_,_⟩,⟨_,_,_⟩,_⟩ := hSw.2; go_simp; (try with_reducible rfl)
     try go_frame
     refine tw 9 rfl fun K hK => ?_
     go_simp
     (with_reducible refine Calls.mono (LO.out _) ?_); rintro e w7 ⟨rfl, hb⟩
     refine hK.out _ _ (hHeld2.next hb) (fun hHeld3 => ?_)
     clear hK K; try clear hb
     try go_frame
     refine tv 11 20 rfl rfl ?_
     try go_frame
     refine tv 12 21 rfl rfl ?_
     try go_frame
     refine tv 13 22 rfl rfl ?_
     try go_frame
     refine tu 14 23 rfl rfl ?_
     try go_frame
     refine tu 15 24 rfl rfl ?_
     try go_frame
     refine tu 16 25 rfl rfl ?_
     try go_frame
     refine tv 17 26 rfl rfl ?_
     try go_frame
     refine tv 18 27 rfl rfl ?_
     try go_frame
     refine tu 19 28 rfl rfl ?_
     try go_frame
     refine tu 20 29 rfl rfl ?_
     try go_frame
     refine tu 21 30 rfl rfl ?_
     try go_frame
     refine tu 22 31 rfl rfl ?_
     try go_frame
     refine tu 23 32 rfl rfl ?_
     try go_frame
     refine tv 24 33 rfl rfl ?_
     try go_frame
     refine tv 25 2 rfl rfl ?_
     try go_frame
     refine wpAnyH_done (by kernel_rfl) ?_ _
     have hHeld := hHeld3
     obtain ⟨⟨_,_,_⟩,⟨_,_,_⟩,⟨_,_,_⟩,⟨_,_,_⟩,⟨_,_,_⟩,⟨_,_,_⟩,_⟩ := hHeld.2
     all_goals
      go_wp2_with fail
      go_ret
      exact ⟨rfl, hHeld.1⟩
   ·have t1 : (x == n) = false := by simpa using g1
    have e : R = false := by rw [← Bool.not_eq_true, LI]; simp [g1]
    subst e
    clear LI gs gb
    go_enter Tryz.func22, Tryz.ntmps22
    go_wp2_with fail
    refine region_keeps (w0 := w) (L := [(w.heap.size, 0, .int .i64 a), (w.heap.size, 1, .int .i64 r), (w.heap.size, 2, .int .i64 n), (w.heap.size, 3, .int .i64 d), (w.heap.size + 1, 0, .int .i64 n), (w.heap.size + 1, 1, .int .i64 d)]) (by kernel_rfl) (by first | exact hHeld | (refine ⟨by go_grown, ?_⟩; simp [Cells, go_sem]; done)) (fun hHeld0 => ?_)
    refine tv 0 9 rfl rfl ?_
    try go_frame
    refine tk 1 10 rfl rfl ?_ ?_ ?_
    rotate_left
    ·intro wq hSw; obtain ⟨⟨_,_,_⟩,⟨_,_,_⟩,⟨_,_,_⟩,⟨_,_,_⟩,⟨_,_,_⟩,⟨_,_,_⟩,_⟩ := hSw.2; go_simp; (try with_reducible rfl)
    try go_frame
    refine tw 2 rfl fun K hK => ?_
    go_simp
    (with_reducible refine Calls.mono (BK.out _) ?_); rintro e w5 ⟨rfl, hb⟩
    refine hK.out _ _ (hHeld0.next hb) (fun hHeld1 => ?_)
    clear hK K; try clear hb
    try go_frame
    refine tv 3 12 rfl rfl ?_
    try go_frame
    refine tk 4 13 rfl rfl ?_ ?_ ?_
    rotate_left
    ·intro wq hSw; obtain ⟨⟨_,_,_⟩,⟨_,_,_⟩,⟨_,_,_⟩,⟨_,_,_⟩,⟨_,_,_⟩,⟨_,_,_⟩,_⟩ := hSw.2; go_simp; (try with_reducible rfl)
    try go_frame
    refine tw 5 rfl fun K hK => ?_
    go_simp
    (with_reducible refine Calls.mono (SL.out _) ?_); rintro e w6 ⟨rfl, hb⟩
    refine hK.out _ _ (hHeld1.next hb) (fun hHeld2 => ?_)
    clear hK K; try clear hb
    try go_frame
    refine tv 6 15 rfl rfl ?_
    try go_frame
    refine tv 7 16 rfl rfl ?_
    try go_frame
    refine tk 8 17 rfl rfl ?_ ?_ ?_
    rotate_left
    ·intro wq hSw; obtain ⟨⟨_,_,_⟩,⟨_,_,_⟩,⟨_,_,_⟩,⟨_,_,_⟩,⟨_,_,_⟩,⟨_,_,_⟩,_⟩ := hSw.2; go_simp; (try with_reducible rfl)
    try go_frame
    refine tk 10 19 rfl rfl ?_ ?_ ?_
    rotate_left
    ·intro wq hSw; obtain ⟨⟨_,_,_⟩,⟨_,_,_⟩,⟨_,_,_⟩,⟨_,_,_⟩,⟨_,_,_⟩,⟨_,_,_⟩,_⟩ := hSw.2; go_simp; (try with_reducible rfl)
    try go_frame
    refine tw 9 rfl fun K hK => ?_
    go_simp
    (with_reducible refine Calls.mono (LO.out _) ?_); rintro e w7 ⟨rfl, hb⟩
    refine hK.out _ _ (hHeld2.next hb) (fun hHeld3 => ?_)
    clear hK K; try clear hb
    try go_frame
    refine tv 11 20 rfl rfl ?_
    try go_frame
    refine tv 12 21 rfl rfl ?_
    try go_frame
    refine tv 13 22 rfl rfl ?_
    try go_frame
    refine tu 14 23 rfl rfl ?_
    try go_frame
    refine tu 15 24 rfl rfl ?_
    try go_frame
    refine tu 16 25 rfl rfl ?_
    try go_frame
    refine tv 17 26 rfl rfl ?_
    try go_frame
    refine tv 18 27 rfl rfl ?_
    try go_frame
    refine tu 19 28 rfl rfl ?_
    try go_frame
    refine tu 20 29 rfl rfl ?_
    try go_frame
    refine tu 21 30 rfl rfl ?_
    try go_frame
    refine tu 22 31 rfl rfl ?_
    try go_frame
    refine tu 23 32 rfl rfl ?_
    try go_frame
    refine tv 24 33 rfl rfl ?_
    try go_frame
    refine tv 25 2 rfl rfl ?_
    try go_frame
    refine wpAnyH_done (by kernel_rfl) ?_ _
    have hHeld := hHeld3
    obtain ⟨⟨_,_,_⟩,⟨_,_,_⟩,⟨_,_,_⟩,⟨_,_,_⟩,⟨_,_,_⟩,⟨_,_,_⟩,_⟩ := hHeld.2
    all_goals
     go_wp2_with fail
     go_ret
     exact ⟨rfl, hHeld.1⟩
theorem len_of (k : Nat) (z : Int) (h : z.natAbs < 2 ^ k) : (sizeL z.natAbs).length ≤ k := sizeL_length k _ h
theorem ref_bounds {a r n d t : Int} (h : lineB a r n d = true) (ht : timeB t = true) : (sizeL (n * t + r).natAbs).length ≤ 120 ∧ (sizeL (a * d).natAbs).length ≤ 120 ∧ (sizeL (exV a r n d t).natAbs).length ≤ 120 ∧ (sizeL (n * t).natAbs).length ≤ 120 := by
 obtain ⟨_, _, _, _, _, _, _, m1, m2, r0, r1⟩ := ex_bounds h ht
 unfold exV
 generalize a * d = p at *
 generalize n * t = q at *
 exact ⟨len_of 120 _ (by omega), len_of 120 _ (by omega), len_of 120 _ (by omega), len_of 120 _ (by omega)⟩
set_option maxRecDepth 100000 in
set_option maxHeartbeats 8000000 in
theorem refTimes_any (a r n d t : Int) (h : lineB a r n d = true) (ht : timeB t = true) (w : World) : Calls Tryz.prog 119 #[lnV a r n d, .int .i64 t] w (RetZ w (exV a r n d t)) := by
 obtain ⟨i1, i2, i3, i4, i5, _⟩ := ex_bounds h ht
 obtain ⟨b1, b2, b3, b4⟩ := ref_bounds h ht
 have l1 := i64_len a i1
 have l2 := i64_len n i2
 have l3 := i64_len d i3
 have l4 := i64_len t i4
 have l5 := i64_len r i5
 have IA := Lib.hid (fun W => intZ_any a i1.1 i1.2 W)
 have IN := Lib.hid (fun W => intZ_any n i2.1 i2.2 W)
 have ID := Lib.hid (fun W => intZ_any d i3.1 i3.2 W)
 have IT := Lib.hid (fun W => intZ_any t i4.1 i4.2 W)
 have IR := Lib.hid (fun W => intZ_any r i5.1 i5.2 W)
 have M1 := Lib.hid (fun u u' W k k' => mulZ_any n t (by omega) u u' W k k')
 have A1 := Lib.hid (fun u u' W k k' => addZ_any (n * t) r (by omega) (by omega) u u' W k k')
 have M2 := Lib.hid (fun u u' W k k' => mulZ_any a d (by omega) u u' W k k')
 have A2 := Lib.hid (fun u u' W k k' => addZ_any (n * t + r) (a * d) (by omega) (by omega) u u' W k k')
 have e : n * t + r + a * d = exV a r n d t := by unfold exV; omega
 rw [e] at A2
 clear e l1 l2 l3 l4 l5 b1 b2 b3 b4 i1 i2 i3 i4 i5 h ht
 generalize exV a r n d t = X at *
 generalize n * t + r = S at *
 generalize n * t = P at *
 generalize a * d = T at *
 go_enter Tryz.func119, Tryz.ntmps119
 go_upto_region 1 with (fail)
 have hHs : Keeps w [(w.heap.size, 0, .int .i64 a), (w.heap.size, 1, .int .i64 r), (w.heap.size, 2, .int .i64 n), (w.heap.size, 3, .int .i64 d), (w.heap.size + 1, 0, .bool false), (w.heap.size + 1, 1, .slice none 0 0)] ((w.alloc (.cells #[.int .i64 a, .int .i64 r, .int .i64 n, .int .i64 d] 24)).alloc (.cells #[.bool false, .slice none 0 0] 132)) := ⟨(below_alloc w _).alloc (by simp) _, by simp [Cells, go_sem]⟩
 generalize hGi : (w.alloc (.cells #[.int .i64 a, .int .i64 r, .int .i64 n, .int .i64 d] 24)).alloc (.cells #[.bool false, .slice none 0 0] 132) = wi at hHs ⊢
 clear hGi
 go_cut [5] (fun s5 wx => ∃ (g : Nat) (b : Bool) (A : Option Addr) (m c : Nat), s5 = .pointer (some ⟨g, 0, none⟩) ∧ Hid (NumZ wx (.agg #[.bool b, .slice A m c]) S) ∧ Keeps w [(g, 0, .bool b), (g, 1, .slice A m c), (w.heap.size, 0, .int .i64 a), (w.heap.size, 1, .int .i64 r), (w.heap.size, 2, .int .i64 n), (w.heap.size, 3, .int .i64 d), (w.heap.size + 1, 0, .bool false), (w.heap.size + 1, 1, .slice none 0 0)] wx ∧ g ≠ w.heap.size + 1)
 case first =>
  refine region_keeps (w0 := w) (L := [(w.heap.size, 0, .int .i64 a), (w.heap.size, 1, .int .i64 r), (w.heap.size, 2, .int .i64 n), (w.heap.size, 3, .int .i64 d), (w.heap.size + 1, 0, .bool false), (w.heap.size + 1, 1, .slice none 0 0)]) (by kernel_rfl) hHs (fun hHeld0 => ?_)
  refine tv 0 6 rfl rfl ?_
  try go_frame
  refine tk 1 7 rfl rfl ?_ ?_ ?_
  rotate_left
  ·intro wq hSw; obtain ⟨⟨_,_,_⟩,⟨_,_,_⟩,⟨_,_,_⟩,⟨_,_,_⟩,⟨_,_,_⟩,⟨_,_,_⟩,_⟩ := hSw.2; go_simp; (try with_reducible rfl)
  try go_frame
  refine tv 3 9 rfl rfl ?_
  try go_frame
  refine tv 6 12 rfl rfl ?_
  try go_frame
  refine tk 7 13 rfl rfl ?_ ?_ ?_
  rotate_left
  ·intro wq hSw; obtain ⟨⟨_,_,_⟩,⟨_,_,_⟩,⟨_,_,_⟩,⟨_,_,_⟩,⟨_,_,_⟩,⟨_,_,_⟩,_⟩ := hSw.2; go_simp; (try with_reducible rfl)
  try go_frame
  refine ty [2, 10] ?_
  refine AllReadyH.cons rfl (fun K hK => ?_) ?_
  go_simp
  (first | ((with_reducible refine (IN.out _).mono ?_); rintro e wn ⟨bn, An, nn, cn, rfl, hb, zn⟩) | ((with_reducible refine (IT.out _).mono ?_); rintro e wt ⟨bt, At, nt, ct, rfl, hb, zt⟩) | ((with_reducible refine (M1.out _ _ _ zn zt).mono ?_); rintro e wm ⟨bm, Am, nm, cm, rfl, hb, zm⟩) | ((with_reducible refine (IR.out _).mono ?_); rintro e wr ⟨br, Ar, nr, cr, rfl, hb, zr⟩) | ((with_reducible refine (A1.out _ _ _ zm zr).mono ?_); rintro e wa ⟨ba, Aa, na, ca, rfl, hb, za⟩))
  refine hK.out _ _ (hHeld0.next hb) (fun hHeld1 => ?_)
  clear hK K; try clear hb
  try go_frame
  refine ty [4, 10] ?_
  refine AllReadyH.cons rfl (fun K hK => ?_) ?_
  go_simp
  (first | ((with_reducible refine (IN.out _).mono ?_); rintro e wn ⟨bn, An, nn, cn, rfl, hb, zn⟩) | ((with_reducible refine (IT.out _).mono ?_); rintro e wt ⟨bt, At, nt, ct, rfl, hb, zt⟩) | ((with_reducible refine (M1.out _ _ _ zn zt).mono ?_); rintro e wm ⟨bm, Am, nm, cm, rfl, hb, zm⟩) | ((with_reducible refine (IR.out _).mono ?_); rintro e wr ⟨br, Ar, nr, cr, rfl, hb, zr⟩) | ((with_reducible refine (A1.out _ _ _ zm zr).mono ?_); rintro e wa ⟨ba, Aa, na, ca, rfl, hb, za⟩))
  refine hK.out _ _ (hHeld1.next hb) (fun hHeld2 => ?_)
  (try replace zn := zn.below hb)
  clear hK K; try clear hb
  try go_frame
  refine ty [5, 10] ?_
  refine AllReadyH.cons rfl (fun K hK => ?_) ?_
  go_simp
  (first | ((with_reducible refine (IN.out _).mono ?_); rintro e wn ⟨bn, An, nn, cn, rfl, hb, zn⟩) | ((with_reducible refine (IT.out _).mono ?_); rintro e wt ⟨bt, At, nt, ct, rfl, hb, zt⟩) | ((with_reducible refine (M1.out _ _ _ zn zt).mono ?_); rintro e wm ⟨bm, Am, nm, cm, rfl, hb, zm⟩) | ((with_reducible refine (IR.out _).mono ?_); rintro e wr ⟨br, Ar, nr, cr, rfl, hb, zr⟩) | ((with_reducible refine (A1.out _ _ _ zm zr).mono ?_); rintro e wa ⟨ba, Aa, na, ca, rfl, hb, za⟩))
  refine hK.out _ _ (hHeld2.next hb) (fun hHeld3 => ?_)
  (try replace zn := zn.below hb)
  (try replace zt := zt.below hb)
  clear hK K; try clear hb
  try go_frame
  refine ty [8, 10] ?_
  refine AllReadyH.cons rfl (fun K hK => ?_) ?_
  go_simp
  (first | ((with_reducible refine (IN.out _).mono ?_); rintro e wn ⟨bn, An, nn, cn, rfl, hb, zn⟩) | ((with_reducible refine (IT.out _).mono ?_); rintro e wt ⟨bt, At, nt, ct, rfl, hb, zt⟩) | ((with_reducible refine (M1.out _ _ _ zn zt).mono ?_); rintro e wm ⟨bm, Am, nm, cm, rfl, hb, zm⟩) | ((with_reducible refine (IR.out _).mono ?_); rintro e wr ⟨br, Ar, nr, cr, rfl, hb, zr⟩) | ((with_reducible refine (A1.out _ _ _ zm zr).mono ?_); rintro e wa ⟨ba, Aa, na, ca, rfl, hb, za⟩))
  refine hK.out _ _ (hHeld3.next hb) (fun hHeld4 => ?_)
  (try replace zm := zm.below hb)
  clear hK K; try clear hb
  try go_frame
  refine ty [9, 10] ?_
  refine AllReadyH.cons rfl (fun K hK => ?_) ?_
  go_simp
  (first | ((with_reducible refine (IN.out _).mono ?_); rintro e wn ⟨bn, An, nn, cn, rfl, hb, zn⟩) | ((with_reducible refine (IT.out _).mono ?_); rintro e wt ⟨bt, At, nt, ct, rfl, hb, zt⟩) | ((with_reducible refine (M1.out _ _ _ zn zt).mono ?_); rintro e wm ⟨bm, Am, nm, cm, rfl, hb, zm⟩) | ((with_reducible refine (IR.out _).mono ?_); rintro e wr ⟨br, Ar, nr, cr, rfl, hb, zr⟩) | ((with_reducible refine (A1.out _ _ _ zm zr).mono ?_); rintro e wa ⟨ba, Aa, na, ca, rfl, hb, za⟩))
  refine hK.out _ _ (hHeld4.next hb) (fun hHeld5 => ?_)
  (try replace zm := zm.below hb)
  (try replace zr := zr.below hb)
  clear hK K; try clear hb
  try go_frame
  refine tw 10 rfl fun K hK => ?_
  have lo5 := hHeld5.1.size
  obtain ⟨⟨a5_z0,_,_⟩,⟨a5_z1,_,_⟩,⟨a5_z2,_,_⟩,⟨a5_z3,_,_⟩,⟨a5_z4,_,_⟩,⟨a5_z5,_,_⟩,_⟩ := hHeld5.2
  (try simp at lo5); (try simp at a5_z0); (try simp at a5_z1); (try simp at a5_z2); (try simp at a5_z3); (try simp at a5_z4); (try simp at a5_z5)
  go_simp
  refine hK.out _ _ (by first | exact hHeld5.alloc _ | exact (hHeld5.alloc _).drew) (fun hHeld6 => ?_)
  (try replace za := za.alloc2 hHeld6)
  first | have hS5 := newK2 hHeld6 | have hS5 := newK2d hHeld6
  clear hK K; try clear hb
  try go_frame
  generalize hGWA1 : World.alloc wa (.cells #[.bool false, .slice none 0 0] 132) = WA1 at *
  clear hGWA1
  refine tw 11 rfl fun K hK => ?_
  obtain ⟨⟨s5z0, s5c0, s5f0⟩, ⟨s5z1, s5c1, s5f1⟩, _⟩ := hS5.2
  go_simp
  refine hK.out _ _ (by (repeat (first | (with_reducible exact hHeld6) | (refine Keeps.set ?_ (by simp <;> omega) (by simp <;> omega) _)))) (fun hHeld7 => ?_)
  (try replace za := za.store2 hHeld7 s5c0 s5c1)
  replace hS5 := hHeld7.add2 s5z0 s5c0 s5f0 s5c1 s5f1
  clear s5z0 s5c0 s5f0 s5z1 s5c1 s5f1
  clear hK K; try clear hb
  try go_frame
  generalize hGWA2 : World.setCell (World.setCell WA1 ⟨wa.heap.size, 0, none⟩ (.bool ba)) ⟨wa.heap.size, 1, none⟩ (.slice Aa na ca) = WA2 at *
  clear hGWA2
  refine wpAnyH_done (by kernel_rfl) ?_ _
  have hHeld := hHeld7
  rotate_left 1
  refine AllReadyH.cons rfl (fun K hK => ?_) ?_
  have lo5 := hHeld4.1.size
  obtain ⟨⟨a5_z0,_,_⟩,⟨a5_z1,_,_⟩,⟨a5_z2,_,_⟩,⟨a5_z3,_,_⟩,⟨a5_z4,_,_⟩,⟨a5_z5,_,_⟩,_⟩ := hHeld4.2
  (try simp at lo5); (try simp at a5_z0); (try simp at a5_z1); (try simp at a5_z2); (try simp at a5_z3); (try simp at a5_z4); (try simp at a5_z5)
  go_simp
  refine hK.out _ _ (by first | exact hHeld4.alloc _ | exact (hHeld4.alloc _).drew) (fun hHeld8 => ?_)
  (try replace zm := zm.alloc2 hHeld8)
  (try replace zr := zr.alloc2 hHeld8)
  first | have hS5 := newK2 hHeld8 | have hS5 := newK2d hHeld8
  clear hK K; try clear hb
  try go_frame
  generalize hGWA3 : World.alloc wr (.cells #[.bool false, .slice none 0 0] 132) = WA3 at *
  clear hGWA3
  refine tw 9 rfl fun K hK => ?_
  go_simp
  (first | ((with_reducible refine (IN.out _).mono ?_); rintro e wn ⟨bn, An, nn, cn, rfl, hb, zn⟩) | ((with_reducible refine (IT.out _).mono ?_); rintro e wt ⟨bt, At, nt, ct, rfl, hb, zt⟩) | ((with_reducible refine (M1.out _ _ _ zn zt).mono ?_); rintro e wm ⟨bm, Am, nm, cm, rfl, hb, zm⟩) | ((with_reducible refine (IR.out _).mono ?_); rintro e wr ⟨br, Ar, nr, cr, rfl, hb, zr⟩) | ((with_reducible refine (A1.out _ _ _ zm zr).mono ?_); rintro e wa ⟨ba, Aa, na, ca, rfl, hb, za⟩))
  refine hK.out _ _ (hHeld8.next hb) (fun hHeld9 => ?_)
  replace hS5 := hS5.next hb
  (try replace zm := zm.below hb)
  (try replace zr := zr.below hb)
  clear hK K; try clear hb
  try go_frame
  refine tw 11 rfl fun K hK => ?_
  obtain ⟨⟨s5z0, s5c0, s5f0⟩, ⟨s5z1, s5c1, s5f1⟩, _⟩ := hS5.2
  go_simp
  refine hK.out _ _ (by (repeat (first | (with_reducible exact hHeld9) | (refine Keeps.set ?_ (by simp <;> omega) (by simp <;> omega) _)))) (fun hHeld10 => ?_)
  (try replace za := za.store2 hHeld10 s5c0 s5c1)
  replace hS5 := hHeld10.add2 s5z0 s5c0 s5f0 s5c1 s5f1
  clear s5z0 s5c0 s5f0 s5z1 s5c1 s5f1
  clear hK K; try clear hb
  try go_frame
  generalize hGWA4 : World.setCell (World.setCell wa ⟨wr.heap.size, 0, none⟩ (.bool ba)) ⟨wr.heap.size, 1, none⟩ (.slice Aa na ca) = WA4 at *
  clear hGWA4
  refine wpAnyH_done (by kernel_rfl) ?_ _
  have hHeld := hHeld10
  rotate_left 1
  exact AllReadyH.nil
  refine AllReadyH.cons rfl (fun K hK => ?_) ?_
  have lo5 := hHeld3.1.size
  obtain ⟨⟨a5_z0,_,_⟩,⟨a5_z1,_,_⟩,⟨a5_z2,_,_⟩,⟨a5_z3,_,_⟩,⟨a5_z4,_,_⟩,⟨a5_z5,_,_⟩,_⟩ := hHeld3.2
  (try simp at lo5); (try simp at a5_z0); (try simp at a5_z1); (try simp at a5_z2); (try simp at a5_z3); (try simp at a5_z4); (try simp at a5_z5)
  go_simp
  refine hK.out _ _ (by first | exact hHeld3.alloc _ | exact (hHeld3.alloc _).drew) (fun hHeld11 => ?_)
  (try replace zm := zm.alloc2 hHeld11)
  first | have hS5 := newK2 hHeld11 | have hS5 := newK2d hHeld11
  clear hK K; try clear hb
  try go_frame
  generalize hGWA5 : World.alloc wm (.cells #[.bool false, .slice none 0 0] 132) = WA5 at *
  clear hGWA5
  refine tw 8 rfl fun K hK => ?_
  go_simp
  (first | ((with_reducible refine (IN.out _).mono ?_); rintro e wn ⟨bn, An, nn, cn, rfl, hb, zn⟩) | ((with_reducible refine (IT.out _).mono ?_); rintro e wt ⟨bt, At, nt, ct, rfl, hb, zt⟩) | ((with_reducible refine (M1.out _ _ _ zn zt).mono ?_); rintro e wm ⟨bm, Am, nm, cm, rfl, hb, zm⟩) | ((with_reducible refine (IR.out _).mono ?_); rintro e wr ⟨br, Ar, nr, cr, rfl, hb, zr⟩) | ((with_reducible refine (A1.out _ _ _ zm zr).mono ?_); rintro e wa ⟨ba, Aa, na, ca, rfl, hb, za⟩))
  refine hK.out _ _ (hHeld11.next hb) (fun hHeld12 => ?_)
  replace hS5 := hS5.next hb
  (try replace zm := zm.below hb)
  clear hK K; try clear hb
  try go_frame
  refine tw 9 rfl fun K hK => ?_
  go_simp
  (first | ((with_reducible refine (IN.out _).mono ?_); rintro e wn ⟨bn, An, nn, cn, rfl, hb, zn⟩) | ((with_reducible refine (IT.out _).mono ?_); rintro e wt ⟨bt, At, nt, ct, rfl, hb, zt⟩) | ((with_reducible refine (M1.out _ _ _ zn zt).mono ?_); rintro e wm ⟨bm, Am, nm, cm, rfl, hb, zm⟩) | ((with_reducible refine (IR.out _).mono ?_); rintro e wr ⟨br, Ar, nr, cr, rfl, hb, zr⟩) | ((with_reducible refine (A1.out _ _ _ zm zr).mono ?_); rintro e wa ⟨ba, Aa, na, ca, rfl, hb, za⟩))
  refine hK.out _ _ (hHeld12.next hb) (fun hHeld13 => ?_)
  replace hS5 := hS5.next hb
  (try replace zm := zm.below hb)
  (try replace zr := zr.below hb)
  clear hK K; try clear hb
  try go_frame
  refine tw 11 rfl fun K hK => ?_
  obtain ⟨⟨s5z0, s5c0, s5f0⟩, ⟨s5z1, s5c1, s5f1⟩, _⟩ := hS5.2
  go_simp
  refine hK.out _ _ (by (repeat (first | (with_reducible exact hHeld13) | (refine Keeps.set ?_ (by simp <;> omega) (by simp <;> omega) _)))) (fun hHeld14 => ?_)
  (try replace za := za.store2 hHeld14 s5c0 s5c1)
  replace hS5 := hHeld14.add2 s5z0 s5c0 s5f0 s5c1 s5f1
  clear s5z0 s5c0 s5f0 s5z1 s5c1 s5f1
  clear hK K; try clear hb
  try go_frame
  generalize hGWA6 : World.setCell (World.setCell wa ⟨wm.heap.size, 0, none⟩ (.bool ba)) ⟨wm.heap.size, 1, none⟩ (.slice Aa na ca) = WA6 at *
  clear hGWA6
  refine wpAnyH_done (by kernel_rfl) ?_ _
  have hHeld := hHeld14
  rotate_left 1
  exact AllReadyH.nil
  refine AllReadyH.cons rfl (fun K hK => ?_) ?_
  have lo5 := hHeld2.1.size
  obtain ⟨⟨a5_z0,_,_⟩,⟨a5_z1,_,_⟩,⟨a5_z2,_,_⟩,⟨a5_z3,_,_⟩,⟨a5_z4,_,_⟩,⟨a5_z5,_,_⟩,_⟩ := hHeld2.2
  (try simp at lo5); (try simp at a5_z0); (try simp at a5_z1); (try simp at a5_z2); (try simp at a5_z3); (try simp at a5_z4); (try simp at a5_z5)
  go_simp
  refine hK.out _ _ (by first | exact hHeld2.alloc _ | exact (hHeld2.alloc _).drew) (fun hHeld15 => ?_)
  (try replace zn := zn.alloc2 hHeld15)
  (try replace zt := zt.alloc2 hHeld15)
  first | have hS5 := newK2 hHeld15 | have hS5 := newK2d hHeld15
  clear hK K; try clear hb
  try go_frame
  generalize hGWA7 : World.alloc wt (.cells #[.bool false, .slice none 0 0] 132) = WA7 at *
  clear hGWA7
  refine tw 5 rfl fun K hK => ?_
  go_simp
  (first | ((with_reducible refine (IN.out _).mono ?_); rintro e wn ⟨bn, An, nn, cn, rfl, hb, zn⟩) | ((with_reducible refine (IT.out _).mono ?_); rintro e wt ⟨bt, At, nt, ct, rfl, hb, zt⟩) | ((with_reducible refine (M1.out _ _ _ zn zt).mono ?_); rintro e wm ⟨bm, Am, nm, cm, rfl, hb, zm⟩) | ((with_reducible refine (IR.out _).mono ?_); rintro e wr ⟨br, Ar, nr, cr, rfl, hb, zr⟩) | ((with_reducible refine (A1.out _ _ _ zm zr).mono ?_); rintro e wa ⟨ba, Aa, na, ca, rfl, hb, za⟩))
  refine hK.out _ _ (hHeld15.next hb) (fun hHeld16 => ?_)
  replace hS5 := hS5.next hb
  (try replace zn := zn.below hb)
  (try replace zt := zt.below hb)
  clear hK K; try clear hb
  try go_frame
  refine tw 8 rfl fun K hK => ?_
  go_simp
  (first | ((with_reducible refine (IN.out _).mono ?_); rintro e wn ⟨bn, An, nn, cn, rfl, hb, zn⟩) | ((with_reducible refine (IT.out _).mono ?_); rintro e wt ⟨bt, At, nt, ct, rfl, hb, zt⟩) | ((with_reducible refine (M1.out _ _ _ zn zt).mono ?_); rintro e wm ⟨bm, Am, nm, cm, rfl, hb, zm⟩) | ((with_reducible refine (IR.out _).mono ?_); rintro e wr ⟨br, Ar, nr, cr, rfl, hb, zr⟩) | ((with_reducible refine (A1.out _ _ _ zm zr).mono ?_); rintro e wa ⟨ba, Aa, na, ca, rfl, hb, za⟩))
  refine hK.out _ _ (hHeld16.next hb) (fun hHeld17 => ?_)
  replace hS5 := hS5.next hb
  (try replace zm := zm.below hb)
  clear hK K; try clear hb
  try go_frame
  refine tw 9 rfl fun K hK => ?_
  go_simp
  (first | ((with_reducible refine (IN.out _).mono ?_); rintro e wn ⟨bn, An, nn, cn, rfl, hb, zn⟩) | ((with_reducible refine (IT.out _).mono ?_); rintro e wt ⟨bt, At, nt, ct, rfl, hb, zt⟩) | ((with_reducible refine (M1.out _ _ _ zn zt).mono ?_); rintro e wm ⟨bm, Am, nm, cm, rfl, hb, zm⟩) | ((with_reducible refine (IR.out _).mono ?_); rintro e wr ⟨br, Ar, nr, cr, rfl, hb, zr⟩) | ((with_reducible refine (A1.out _ _ _ zm zr).mono ?_); rintro e wa ⟨ba, Aa, na, ca, rfl, hb, za⟩))
  refine hK.out _ _ (hHeld17.next hb) (fun hHeld18 => ?_)
  replace hS5 := hS5.next hb
  (try replace zm := zm.below hb)
  (try replace zr := zr.below hb)
  clear hK K; try clear hb
  try go_frame
  refine tw 11 rfl fun K hK => ?_
  obtain ⟨⟨s5z0, s5c0, s5f0⟩, ⟨s5z1, s5c1, s5f1⟩, _⟩ := hS5.2
  go_simp
  refine hK.out _ _ (by (repeat (first | (with_reducible exact hHeld18) | (refine Keeps.set ?_ (by simp <;> omega) (by simp <;> omega) _)))) (fun hHeld19 => ?_)
  (try replace za := za.store2 hHeld19 s5c0 s5c1)
  replace hS5 := hHeld19.add2 s5z0 s5c0 s5f0 s5c1 s5f1
  clear s5z0 s5c0 s5f0 s5z1 s5c1 s5f1
  clear hK K; try clear hb
  try go_frame
  generalize hGWA8 : World.setCell (World.setCell wa ⟨wt.heap.size, 0, none⟩ (.bool ba)) ⟨wt.heap.size, 1, none⟩ (.slice Aa na ca) = WA8 at *
  clear hGWA8
  refine wpAnyH_done (by kernel_rfl) ?_ _
  have hHeld := hHeld19
  rotate_left 1
  exact AllReadyH.nil
  refine AllReadyH.cons rfl (fun K hK => ?_) ?_
  have lo5 := hHeld1.1.size
  obtain ⟨⟨a5_z0,_,_⟩,⟨a5_z1,_,_⟩,⟨a5_z2,_,_⟩,⟨a5_z3,_,_⟩,⟨a5_z4,_,_⟩,⟨a5_z5,_,_⟩,_⟩ := hHeld1.2
  (try simp at lo5); (try simp at a5_z0); (try simp at a5_z1); (try simp at a5_z2); (try simp at a5_z3); (try simp at a5_z4); (try simp at a5_z5)
  go_simp
  refine hK.out _ _ (by first | exact hHeld1.alloc _ | exact (hHeld1.alloc _).drew) (fun hHeld20 => ?_)
  (try replace zn := zn.alloc2 hHeld20)
  first | have hS5 := newK2 hHeld20 | have hS5 := newK2d hHeld20
  clear hK K; try clear hb
  try go_frame
  generalize hGWA9 : World.alloc wn (.cells #[.bool false, .slice none 0 0] 132) = WA9 at *
  clear hGWA9
  refine tw 4 rfl fun K hK => ?_
  go_simp
  (first | ((with_reducible refine (IN.out _).mono ?_); rintro e wn ⟨bn, An, nn, cn, rfl, hb, zn⟩) | ((with_reducible refine (IT.out _).mono ?_); rintro e wt ⟨bt, At, nt, ct, rfl, hb, zt⟩) | ((with_reducible refine (M1.out _ _ _ zn zt).mono ?_); rintro e wm ⟨bm, Am, nm, cm, rfl, hb, zm⟩) | ((with_reducible refine (IR.out _).mono ?_); rintro e wr ⟨br, Ar, nr, cr, rfl, hb, zr⟩) | ((with_reducible refine (A1.out _ _ _ zm zr).mono ?_); rintro e wa ⟨ba, Aa, na, ca, rfl, hb, za⟩))
  refine hK.out _ _ (hHeld20.next hb) (fun hHeld21 => ?_)
  replace hS5 := hS5.next hb
  (try replace zn := zn.below hb)
  clear hK K; try clear hb
  try go_frame
  refine tw 5 rfl fun K hK => ?_
  go_simp
  (first | ((with_reducible refine (IN.out _).mono ?_); rintro e wn ⟨bn, An, nn, cn, rfl, hb, zn⟩) | ((with_reducible refine (IT.out _).mono ?_); rintro e wt ⟨bt, At, nt, ct, rfl, hb, zt⟩) | ((with_reducible refine (M1.out _ _ _ zn zt).mono ?_); rintro e wm ⟨bm, Am, nm, cm, rfl, hb, zm⟩) | ((with_reducible refine (IR.out _).mono ?_); rintro e wr ⟨br, Ar, nr, cr, rfl, hb, zr⟩) | ((with_reducible refine (A1.out _ _ _ zm zr).mono ?_); rintro e wa ⟨ba, Aa, na, ca, rfl, hb, za⟩))
  refine hK.out _ _ (hHeld21.next hb) (fun hHeld22 => ?_)
  replace hS5 := hS5.next hb
  (try replace zn := zn.below hb)
  (try replace zt := zt.below hb)
  clear hK K; try clear hb
  try go_frame
  refine tw 8 rfl fun K hK => ?_
  go_simp
  (first | ((with_reducible refine (IN.out _).mono ?_); rintro e wn ⟨bn, An, nn, cn, rfl, hb, zn⟩) | ((with_reducible refine (IT.out _).mono ?_); rintro e wt ⟨bt, At, nt, ct, rfl, hb, zt⟩) | ((with_reducible refine (M1.out _ _ _ zn zt).mono ?_); rintro e wm ⟨bm, Am, nm, cm, rfl, hb, zm⟩) | ((with_reducible refine (IR.out _).mono ?_); rintro e wr ⟨br, Ar, nr, cr, rfl, hb, zr⟩) | ((with_reducible refine (A1.out _ _ _ zm zr).mono ?_); rintro e wa ⟨ba, Aa, na, ca, rfl, hb, za⟩))
  refine hK.out _ _ (hHeld22.next hb) (fun hHeld23 => ?_)
  replace hS5 := hS5.next hb
  (try replace zm := zm.below hb)
  clear hK K; try clear hb
  try go_frame
  refine tw 9 rfl fun K hK => ?_
  go_simp
  (first | ((with_reducible refine (IN.out _).mono ?_); rintro e wn ⟨bn, An, nn, cn, rfl, hb, zn⟩) | ((with_reducible refine (IT.out _).mono ?_); rintro e wt ⟨bt, At, nt, ct, rfl, hb, zt⟩) | ((with_reducible refine (M1.out _ _ _ zn zt).mono ?_); rintro e wm ⟨bm, Am, nm, cm, rfl, hb, zm⟩) | ((with_reducible refine (IR.out _).mono ?_); rintro e wr ⟨br, Ar, nr, cr, rfl, hb, zr⟩) | ((with_reducible refine (A1.out _ _ _ zm zr).mono ?_); rintro e wa ⟨ba, Aa, na, ca, rfl, hb, za⟩))
  refine hK.out _ _ (hHeld23.next hb) (fun hHeld24 => ?_)
  replace hS5 := hS5.next hb
  (try replace zm := zm.below hb)
  (try replace zr := zr.below hb)
  clear hK K; try clear hb
  try go_frame
  refine tw 11 rfl fun K hK => ?_
  obtain ⟨⟨s5z0, s5c0, s5f0⟩, ⟨s5z1, s5c1, s5f1⟩, _⟩ := hS5.2
  go_simp
  refine hK.out _ _ (by (repeat (first | (with_reducible exact hHeld24) | (refine Keeps.set ?_ (by simp <;> omega) (by simp <;> omega) _)))) (fun hHeld25 => ?_)
  (try replace za := za.store2 hHeld25 s5c0 s5c1)
  replace hS5 := hHeld25.add2 s5z0 s5c0 s5f0 s5c1 s5f1
  clear s5z0 s5c0 s5f0 s5z1 s5c1 s5f1
  clear hK K; try clear hb
  try go_frame
  generalize hGWA10 : World.setCell (World.setCell wa ⟨wn.heap.size, 0, none⟩ (.bool ba)) ⟨wn.heap.size, 1, none⟩ (.slice Aa na ca) = WA10 at *
  clear hGWA10
  refine wpAnyH_done (by kernel_rfl) ?_ _
  have hHeld := hHeld25
  rotate_left 1
  exact AllReadyH.nil
  refine AllReadyH.cons rfl (fun K hK => ?_) ?_
  have lo5 := hHeld0.1.size
  obtain ⟨⟨a5_z0,_,_⟩,⟨a5_z1,_,_⟩,⟨a5_z2,_,_⟩,⟨a5_z3,_,_⟩,⟨a5_z4,_,_⟩,⟨a5_z5,_,_⟩,_⟩ := hHeld0.2
  (try simp at lo5); (try simp at a5_z0); (try simp at a5_z1); (try simp at a5_z2); (try simp at a5_z3); (try simp at a5_z4); (try simp at a5_z5)
  go_simp
  refine hK.out _ _ (by first | exact hHeld0.alloc _ | exact (hHeld0.alloc _).drew) (fun hHeld26 => ?_)
  first | have hS5 := newK2 hHeld26 | have hS5 := newK2d hHeld26
  clear hK K; try clear hb
  try go_frame
  generalize hGWA11 : World.alloc wi (.cells #[.bool false, .slice none 0 0] 132) = WA11 at *
  clear hGWA11
  refine tw 2 rfl fun K hK => ?_
  go_simp
  (first | ((with_reducible refine (IN.out _).mono ?_); rintro e wn ⟨bn, An, nn, cn, rfl, hb, zn⟩) | ((with_reducible refine (IT.out _).mono ?_); rintro e wt ⟨bt, At, nt, ct, rfl, hb, zt⟩) | ((with_reducible refine (M1.out _ _ _ zn zt).mono ?_); rintro e wm ⟨bm, Am, nm, cm, rfl, hb, zm⟩) | ((with_reducible refine (IR.out _).mono ?_); rintro e wr ⟨br, Ar, nr, cr, rfl, hb, zr⟩) | ((with_reducible refine (A1.out _ _ _ zm zr).mono ?_); rintro e wa ⟨ba, Aa, na, ca, rfl, hb, za⟩))
  refine hK.out _ _ (hHeld26.next hb) (fun hHeld27 => ?_)
  replace hS5 := hS5.next hb
  clear hK K; try clear hb
  try go_frame
  refine tw 4 rfl fun K hK => ?_
  go_simp
  (first | ((with_reducible refine (IN.out _).mono ?_); rintro e wn ⟨bn, An, nn, cn, rfl, hb, zn⟩) | ((with_reducible refine (IT.out _).mono ?_); rintro e wt ⟨bt, At, nt, ct, rfl, hb, zt⟩) | ((with_reducible refine (M1.out _ _ _ zn zt).mono ?_); rintro e wm ⟨bm, Am, nm, cm, rfl, hb, zm⟩) | ((with_reducible refine (IR.out _).mono ?_); rintro e wr ⟨br, Ar, nr, cr, rfl, hb, zr⟩) | ((with_reducible refine (A1.out _ _ _ zm zr).mono ?_); rintro e wa ⟨ba, Aa, na, ca, rfl, hb, za⟩))
  refine hK.out _ _ (hHeld27.next hb) (fun hHeld28 => ?_)
  replace hS5 := hS5.next hb
  (try replace zn := zn.below hb)
  clear hK K; try clear hb
  try go_frame
  refine tw 5 rfl fun K hK => ?_
  go_simp
  (first | ((with_reducible refine (IN.out _).mono ?_); rintro e wn ⟨bn, An, nn, cn, rfl, hb, zn⟩) | ((with_reducible refine (IT.out _).mono ?_); rintro e wt ⟨bt, At, nt, ct, rfl, hb, zt⟩) | ((with_reducible refine (M1.out _ _ _ zn zt).mono ?_); rintro e wm ⟨bm, Am, nm, cm, rfl, hb, zm⟩) | ((with_reducible refine (IR.out _).mono ?_); rintro e wr ⟨br, Ar, nr, cr, rfl, hb, zr⟩) | ((with_reducible refine (A1.out _ _ _ zm zr).mono ?_); rintro e wa ⟨ba, Aa, na, ca, rfl, hb, za⟩))
  refine hK.out _ _ (hHeld28.next hb) (fun hHeld29 => ?_)
  replace hS5 := hS5.next hb
  (try replace zn := zn.below hb)
  (try replace zt := zt.below hb)
  clear hK K; try clear hb
  try go_frame
  refine tw 8 rfl fun K hK => ?_
  go_simp
  (first | ((with_reducible refine (IN.out _).mono ?_); rintro e wn ⟨bn, An, nn, cn, rfl, hb, zn⟩) | ((with_reducible refine (IT.out _).mono ?_); rintro e wt ⟨bt, At, nt, ct, rfl, hb, zt⟩) | ((with_reducible refine (M1.out _ _ _ zn zt).mono ?_); rintro e wm ⟨bm, Am, nm, cm, rfl, hb, zm⟩) | ((with_reducible refine (IR.out _).mono ?_); rintro e wr ⟨br, Ar, nr, cr, rfl, hb, zr⟩) | ((with_reducible refine (A1.out _ _ _ zm zr).mono ?_); rintro e wa ⟨ba, Aa, na, ca, rfl, hb, za⟩))
  refine hK.out _ _ (hHeld29.next hb) (fun hHeld30 => ?_)
  replace hS5 := hS5.next hb
  (try replace zm := zm.below hb)
  clear hK K; try clear hb
  try go_frame
  refine tw 9 rfl fun K hK => ?_
  go_simp
  (first | ((with_reducible refine (IN.out _).mono ?_); rintro e wn ⟨bn, An, nn, cn, rfl, hb, zn⟩) | ((with_reducible refine (IT.out _).mono ?_); rintro e wt ⟨bt, At, nt, ct, rfl, hb, zt⟩) | ((with_reducible refine (M1.out _ _ _ zn zt).mono ?_); rintro e wm ⟨bm, Am, nm, cm, rfl, hb, zm⟩) | ((with_reducible refine (IR.out _).mono ?_); rintro e wr ⟨br, Ar, nr, cr, rfl, hb, zr⟩) | ((with_reducible refine (A1.out _ _ _ zm zr).mono ?_); rintro e wa ⟨ba, Aa, na, ca, rfl, hb, za⟩))
  refine hK.out _ _ (hHeld30.next hb) (fun hHeld31 => ?_)
  replace hS5 := hS5.next hb
  (try replace zm := zm.below hb)
  (try replace zr := zr.below hb)
  clear hK K; try clear hb
  try go_frame
  refine tw 11 rfl fun K hK => ?_
  obtain ⟨⟨s5z0, s5c0, s5f0⟩, ⟨s5z1, s5c1, s5f1⟩, _⟩ := hS5.2
  go_simp
  refine hK.out _ _ (by (repeat (first | (with_reducible exact hHeld31) | (refine Keeps.set ?_ (by simp <;> omega) (by simp <;> omega) _)))) (fun hHeld32 => ?_)
  (try replace za := za.store2 hHeld32 s5c0 s5c1)
  replace hS5 := hHeld32.add2 s5z0 s5c0 s5f0 s5c1 s5f1
  clear s5z0 s5c0 s5f0 s5z1 s5c1 s5f1
  clear hK K; try clear hb
  try go_frame
  generalize hGWA12 : World.setCell (World.setCell wa ⟨wi.heap.size, 0, none⟩ (.bool ba)) ⟨wi.heap.size, 1, none⟩ (.slice Aa na ca) = WA12 at *
  clear hGWA12
  refine wpAnyH_done (by kernel_rfl) ?_ _
  have hHeld := hHeld32
  rotate_left 1
  exact AllReadyH.nil
  all_goals
   go_wp2_with fail
   go_meet
   case rel => exact ⟨_, _, _, _, _, rfl, Lib.hid za, hS5, by omega⟩
 case rest =>
  obtain ⟨g, b, A, m, c, rfl, HZ, hK, hg⟩ := hcut
  go_wp2_with fail
  refine region_keepsB (w0 := w) (L := [(g, 0, .bool b), (g, 1, .slice A m c), (w.heap.size, 0, .int .i64 a), (w.heap.size, 1, .int .i64 r), (w.heap.size, 2, .int .i64 n), (w.heap.size, 3, .int .i64 d)]) (M := [(w.heap.size + 1, 0, .bool false), (w.heap.size + 1, 1, .slice none 0 0)]) (by kernel_rfl) ⟨hK.1, hK.2.1, hK.2.2.1, hK.2.2.2.1, hK.2.2.2.2.1, hK.2.2.2.2.2.1, hK.2.2.2.2.2.2.1, trivial⟩ ⟨hK.1, hK.2.2.2.2.2.2.2.1, hK.2.2.2.2.2.2.2.2.1, trivial⟩ (fun hHeld0 hT0 => ?_)
  refine tk 0 16 rfl rfl ?_ ?_ ?_
  rotate_left
  ·intro wq hSw; obtain ⟨⟨_,_,_⟩,⟨_,_,_⟩,⟨_,_,_⟩,⟨_,_,_⟩,⟨_,_,_⟩,⟨_,_,_⟩,_⟩ := hSw.2; go_simp; (try with_reducible rfl)
  try go_frame
  refine tv 1 17 rfl rfl ?_
  try go_frame
  refine tk 2 18 rfl rfl ?_ ?_ ?_
  rotate_left
  ·intro wq hSw; obtain ⟨⟨_,_,_⟩,⟨_,_,_⟩,⟨_,_,_⟩,⟨_,_,_⟩,⟨_,_,_⟩,⟨_,_,_⟩,_⟩ := hSw.2; go_simp; (try with_reducible rfl)
  try go_frame
  refine tv 4 20 rfl rfl ?_
  try go_frame
  refine tk 5 21 rfl rfl ?_ ?_ ?_
  rotate_left
  ·intro wq hSw; obtain ⟨⟨_,_,_⟩,⟨_,_,_⟩,⟨_,_,_⟩,⟨_,_,_⟩,⟨_,_,_⟩,⟨_,_,_⟩,_⟩ := hSw.2; go_simp; (try with_reducible rfl)
  try go_frame
  refine tw 3 rfl fun K hK => ?_
  go_simp
  ((with_reducible refine Calls.mono (IA.out _) ?_); rintro en w3 ⟨b3, A3, n3, c3, rfl, hb, z3⟩; have HZ3 := Lib.hid ((HZ.out.below (Below.refl _ _).drew).below hb))
  refine hK.out _ _ (hHeld0.next hb) (fun hHeld1 => ?_)
  replace hT0 := hT0.next hb
  clear hK K; try clear hb
  try go_frame
  refine tw 6 rfl fun K hK => ?_
  go_simp
  ((with_reducible refine Calls.mono (ID.out _) ?_); rintro en w6 ⟨b6, A6, n6, c6, rfl, hb, z6⟩; replace z3 := z3.below hb; have HZ6 := Lib.hid (HZ3.out.below hb); clear HZ3)
  refine hK.out _ _ (hHeld1.next hb) (fun hHeld2 => ?_)
  replace hT0 := hT0.next hb
  clear hK K; try clear hb
  try go_frame
  refine tw 7 rfl fun K hK => ?_
  go_simp
  ((with_reducible refine Calls.mono (M2.out _ _ _ z3 z6) ?_); rintro en w7 ⟨b7, A7, n7, c7, rfl, hb, z7⟩; have HZ7 := Lib.hid (HZ6.out.below hb); clear HZ6 z3 z6)
  refine hK.out _ _ (hHeld2.next hb) (fun hHeld3 => ?_)
  replace hT0 := hT0.next hb
  clear hK K; try clear hb
  try go_frame
  refine tw 8 rfl fun K hK => ?_
  go_simp
  ((with_reducible refine Calls.mono (A2.out _ _ _ HZ7.out z7) ?_); rintro en w8 ⟨b8, A8, n8, c8, rfl, hb, z8⟩; clear HZ7 z7)
  refine hK.out _ _ (hHeld3.next hb) (fun hHeld4 => ?_)
  replace hT0 := hT0.next hb
  clear hK K; try clear hb
  try go_frame
  refine tw 9 rfl fun K hK => ?_
  obtain ⟨⟨t0z0, t0c0, t0f0⟩, ⟨t0z1, t0c1, t0f1⟩, _⟩ := hT0.2; (try simp at t0z0); (try simp at t0c0); (try simp at t0f0); (try simp at t0z1); (try simp at t0c1); (try simp at t0f1)
  go_simp
  refine hK.out _ _ (by first | exact hHeld4.alloc _ | (repeat (first | (with_reducible exact hHeld4) | (with_reducible exact (Keeps.undrewR hHeld4)) | (refine Keeps.set ?_ (by simp <;> omega) (by simp <;> omega) _) | (with_reducible refine Keeps.drew ?_)))) (fun hHeld5 => ?_)
  clear hK K; try clear hb
  try go_frame
  refine wpAnyH_done (by kernel_rfl) ?_ _
  have hHeld := hHeld5
  obtain ⟨⟨_,_,_⟩,⟨_,_,_⟩,⟨_,_,_⟩,⟨_,_,_⟩,⟨_,_,_⟩,⟨_,_,_⟩,_⟩ := hHeld.2
  all_goals
   obtain ⟨d0, d1⟩ := set2 (W := w8) (B := w.heap.size + 1) (u0 := .bool b8) (u1 := .slice A8 n8 c8) t0c0 t0c1
   go_wp2_with fail
   refine bodyPost_ret (v := .agg #[.bool b8, .slice A8 n8 c8]) (by simp [results, Tryz.results119, go_sem, d0, d1]) rfl ?_
   exact ⟨b8, A8, n8, c8, rfl, hHeld.1, z8.set2 t0c0 t0c1 _ _⟩
end Go.Proofs.YtcfidimnbamnkaaGreat
