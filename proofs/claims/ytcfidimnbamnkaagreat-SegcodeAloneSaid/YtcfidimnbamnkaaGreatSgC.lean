/-
 Layer 11: has a segment what belongs to its kind (hasRaw, hasLine). Conditions: its runs may be.
-/
import Derived.Test.YtcfidimnbamnkaaGreatKitW
import Derived.Maps.RangeWalk
import Derived.Test.YtcfidimnbamnkaaGreatSgB
import Derived.Test.YtcfidimnbamnkaaGreatNC
import Derived.Test.YtcfidimnbamnkaaGreatLC
namespace Go.Proofs.YtcfidimnbamnkaaGreat.P11
open Go.RowKit Go.Shelf Go.Proofs.YtcfidimnbamnkaaGreat.P7

set_option maxRecDepth 100000 in
set_option maxHeartbeats 2000000 in
theorem hasRaw_any (s : Sg) (hok : okB s.R = true) (hV : s.V.length ≤ 1000000) (v u : Value) (w : World) (h : ReadsR w v s.R) (hu : Reads .i64 w u s.V) :
  Calls Tryz.prog 176 #[sgV s.k v s.a s.r s.n s.d u s.e] w (Ret w (.bool (rawOk s && backs s.V))) := by
 obtain ⟨k, R, a, r, n, d, V, e⟩ := s
 simp only at hok hV h hu ⊢
 have hT := times_ok hok
 have CN := fun W (hb : Below w.heap.size w W) => cntA_any R (by have := hT.runs; omega) v W (h.below hb)
 rw [hok, if_pos rfl] at CN
 have CF := fun W (hb : Below w.heap.size w W) => containsFunc_any V hV u W (hu.below hb)
 replace CN := Lib.hid CN
 have hRO : rawOk ⟨k, R, a, r, n, d, V, e⟩ = (decide (a = 0 ∧ r = 0 ∧ n = 0 ∧ d = 0) && decide ((V.length : Int) = totalR R)) := rfl
 rw [hRO]
 obtain ⟨A, c, rfl, _, _⟩ := hu
 generalize totalR R = T at *
 generalize backs V = bb at *
 replace CF := Lib.hid CF
 generalize V.length = N at *
 clear hT hok h hRO
 by_cases g1 : a = 0
 ·subst g1
  by_cases g2 : r = 0
  ·subst g2
   by_cases g3 : n = 0
   ·subst g3
    by_cases g4 : d = 0
    ·subst g4
     by_cases g5 : (N : Int) = T
     ·have t5 : ((N : Int) == T) = true := by simpa using g5
      have e5 : (decide ((0 : Int) = 0 ∧ (0 : Int) = 0 ∧ (0 : Int) = 0 ∧ (0 : Int) = 0) && decide ((N : Int) = T) && bb) = bb := by simp [g5]
      rw [e5]
      clear e5 g5
      go_enter Tryz.func176, Tryz.ntmps176
      go_wp2_with fail
      refine region_keeps (w0 := w) (L := [(w.heap.size, 0, .int .i64 k), (w.heap.size, 1, v), (w.heap.size, 2, .int .i64 0), (w.heap.size, 3, .int .i64 0), (w.heap.size, 4, .int .i64 0), (w.heap.size, 5, .int .i64 0), (w.heap.size, 6, .slice A N c), (w.heap.size, 7, .int .i64 e)]) (by kernel_rfl) (by first | exact hHeld | (refine ⟨by go_grown, ?_⟩; simp [Cells, go_sem]; done)) (fun hHeld0 => ?_)
      refine tv 0 4 rfl rfl ?_
      try go_frame
      refine tv 1 5 rfl rfl ?_
      try go_frame
      refine tk 2 6 rfl rfl ?_ ?_ ?_
      rotate_left
      ·intro wq hSw; obtain ⟨⟨_,_,_⟩,⟨_,_,_⟩,⟨_,_,_⟩,⟨_,_,_⟩,⟨_,_,_⟩,⟨_,_,_⟩,⟨_,_,_⟩,⟨_,_,_⟩,_⟩ := hSw.2; go_simp; (try with_reducible rfl)
      try go_frame
      refine tv 3 7 rfl rfl ?_
      try go_frame
      refine tv 4 8 rfl rfl ?_
      try go_frame
      refine tv 5 9 rfl rfl ?_
      try go_frame
      refine tv 6 10 rfl rfl ?_
      try go_frame
      refine tv 7 11 rfl rfl ?_
      try go_frame
      refine tk 8 12 rfl rfl ?_ ?_ ?_
      rotate_left
      ·intro wq hSw; obtain ⟨⟨_,_,_⟩,⟨_,_,_⟩,⟨_,_,_⟩,⟨_,_,_⟩,⟨_,_,_⟩,⟨_,_,_⟩,⟨_,_,_⟩,⟨_,_,_⟩,_⟩ := hSw.2; go_simp; (try with_reducible rfl)
      try go_frame
      refine tv 9 13 rfl rfl ?_
      try go_frame
      refine tv 10 14 rfl rfl ?_
      try go_frame
      refine tv 11 15 rfl rfl ?_
      try go_frame
      refine tk 12 16 rfl rfl ?_ ?_ ?_
      rotate_left
      ·intro wq hSw; obtain ⟨⟨_,_,_⟩,⟨_,_,_⟩,⟨_,_,_⟩,⟨_,_,_⟩,⟨_,_,_⟩,⟨_,_,_⟩,⟨_,_,_⟩,⟨_,_,_⟩,_⟩ := hSw.2; go_simp; (try with_reducible rfl)
      try go_frame
      refine ty [13] ?_
      refine AllReadyH.cons rfl (fun K hK => ?_) AllReadyH.nil
      go_simp
      (have hB0 := hHeld0.1; (with_reducible refine (CN.out _ hB0).mono ?_); clear hB0; rintro e w1 ⟨rfl, hb⟩)
      refine hK.out _ _ (hHeld0.next hb) (fun hHeld1 => ?_)
      clear hK K; try clear hb
      try go_frame
      refine tv 14 18 rfl rfl ?_
      try go_frame
      refine tv 15 19 rfl rfl ?_
      try go_frame
      refine tv 16 20 rfl rfl ?_
      try go_frame
      refine tv 17 21 rfl rfl ?_
      try go_frame
      refine tv 18 22 rfl rfl ?_
      try go_frame
      refine tk 19 23 rfl rfl ?_ ?_ ?_
      rotate_left
      ·intro wq hSw; obtain ⟨⟨_,_,_⟩,⟨_,_,_⟩,⟨_,_,_⟩,⟨_,_,_⟩,⟨_,_,_⟩,⟨_,_,_⟩,⟨_,_,_⟩,⟨_,_,_⟩,_⟩ := hSw.2; go_simp; (try with_reducible rfl)
      try go_frame
      refine tv 20 24 rfl rfl ?_
      try go_frame
      refine ty [21] ?_
      refine AllReadyH.cons rfl (fun K hK => ?_) AllReadyH.nil
      go_simp
      (have hB1 := hHeld1.1; (with_reducible refine (CF.out _ hB1).mono ?_); clear hB1; rintro e w2 ⟨rfl, hb⟩)
      refine hK.out _ _ (hHeld1.next hb) (fun hHeld2 => ?_)
      clear hK K; try clear hb
      try go_frame
      refine tv 22 26 rfl rfl ?_
      try go_frame
      refine tv 23 27 rfl rfl ?_
      try go_frame
      refine tv 24 2 rfl rfl ?_
      try go_frame
      refine wpAnyH_done (by kernel_rfl) ?_ _
      have hHeld := hHeld2
      obtain ⟨⟨_,_,_⟩,⟨_,_,_⟩,⟨_,_,_⟩,⟨_,_,_⟩,⟨_,_,_⟩,⟨_,_,_⟩,⟨_,_,_⟩,⟨_,_,_⟩,_⟩ := hHeld.2
      all_goals
       go_wp2_with fail
       go_ret
       exact ⟨by simp, hHeld.1⟩
     ·have t5 : ((N : Int) == T) = false := by simpa using g5
      have e5 : (decide ((0 : Int) = 0 ∧ (0 : Int) = 0 ∧ (0 : Int) = 0 ∧ (0 : Int) = 0) && decide ((N : Int) = T) && bb) = false := by simp [g5]
      rw [e5]
      clear e5 g5
      go_enter Tryz.func176, Tryz.ntmps176
      go_wp2_with fail
      refine region_keeps (w0 := w) (L := [(w.heap.size, 0, .int .i64 k), (w.heap.size, 1, v), (w.heap.size, 2, .int .i64 0), (w.heap.size, 3, .int .i64 0), (w.heap.size, 4, .int .i64 0), (w.heap.size, 5, .int .i64 0), (w.heap.size, 6, .slice A N c), (w.heap.size, 7, .int .i64 e)]) (by kernel_rfl) (by first | exact hHeld | (refine ⟨by go_grown, ?_⟩; simp [Cells, go_sem]; done)) (fun hHeld0 => ?_)
      refine tv 0 4 rfl rfl ?_
      try go_frame
      refine tv 1 5 rfl rfl ?_
      try go_frame
      refine tk 2 6 rfl rfl ?_ ?_ ?_
      rotate_left
      ·intro wq hSw; obtain ⟨⟨_,_,_⟩,⟨_,_,_⟩,⟨_,_,_⟩,⟨_,_,_⟩,⟨_,_,_⟩,⟨_,_,_⟩,⟨_,_,_⟩,⟨_,_,_⟩,_⟩ := hSw.2; go_simp; (try with_reducible rfl)
      try go_frame
      refine tv 3 7 rfl rfl ?_
      try go_frame
      refine tv 4 8 rfl rfl ?_
      try go_frame
      refine tv 5 9 rfl rfl ?_
      try go_frame
      refine tv 6 10 rfl rfl ?_
      try go_frame
      refine tv 7 11 rfl rfl ?_
      try go_frame
      refine tk 8 12 rfl rfl ?_ ?_ ?_
      rotate_left
      ·intro wq hSw; obtain ⟨⟨_,_,_⟩,⟨_,_,_⟩,⟨_,_,_⟩,⟨_,_,_⟩,⟨_,_,_⟩,⟨_,_,_⟩,⟨_,_,_⟩,⟨_,_,_⟩,_⟩ := hSw.2; go_simp; (try with_reducible rfl)
      try go_frame
      refine tv 9 13 rfl rfl ?_
      try go_frame
      refine tv 10 14 rfl rfl ?_
      try go_frame
      refine tv 11 15 rfl rfl ?_
      try go_frame
      refine tk 12 16 rfl rfl ?_ ?_ ?_
      rotate_left
      ·intro wq hSw; obtain ⟨⟨_,_,_⟩,⟨_,_,_⟩,⟨_,_,_⟩,⟨_,_,_⟩,⟨_,_,_⟩,⟨_,_,_⟩,⟨_,_,_⟩,⟨_,_,_⟩,_⟩ := hSw.2; go_simp; (try with_reducible rfl)
      try go_frame
      refine ty [13] ?_
      refine AllReadyH.cons rfl (fun K hK => ?_) AllReadyH.nil
      go_simp
      (have hB0 := hHeld0.1; (with_reducible refine (CN.out _ hB0).mono ?_); clear hB0; rintro e w1 ⟨rfl, hb⟩)
      refine hK.out _ _ (hHeld0.next hb) (fun hHeld1 => ?_)
      clear hK K; try clear hb
      try go_frame
      refine tv 14 18 rfl rfl ?_
      try go_frame
      refine tv 15 19 rfl rfl ?_
      try go_frame
      refine tv 16 20 rfl rfl ?_
      try go_frame
      refine tu 17 21 rfl rfl ?_
      try go_frame
      refine tu 18 22 rfl rfl ?_
      try go_frame
      refine tu 19 23 rfl rfl ?_
      try go_frame
      refine tu 20 24 rfl rfl ?_
      try go_frame
      refine tu 21 25 rfl rfl ?_
      try go_frame
      refine tu 22 26 rfl rfl ?_
      try go_frame
      refine tv 23 27 rfl rfl ?_
      try go_frame
      refine tv 24 2 rfl rfl ?_
      try go_frame
      refine wpAnyH_done (by kernel_rfl) ?_ _
      have hHeld := hHeld1
      obtain ⟨⟨_,_,_⟩,⟨_,_,_⟩,⟨_,_,_⟩,⟨_,_,_⟩,⟨_,_,_⟩,⟨_,_,_⟩,⟨_,_,_⟩,⟨_,_,_⟩,_⟩ := hHeld.2
      all_goals
       go_wp2_with fail
       go_ret
       exact ⟨rfl, hHeld.1⟩
    ·have t4 : (d == 0) = false := by simpa using g4
     have e5 : (decide ((0 : Int) = 0 ∧ (0 : Int) = 0 ∧ (0 : Int) = 0 ∧ d = 0) && decide ((N : Int) = T) && bb) = false := by simp [g4]
     rw [e5]
     clear e5 g4
     go_enter Tryz.func176, Tryz.ntmps176
     go_wp2_with fail
     refine region_keeps (w0 := w) (L := [(w.heap.size, 0, .int .i64 k), (w.heap.size, 1, v), (w.heap.size, 2, .int .i64 0), (w.heap.size, 3, .int .i64 0), (w.heap.size, 4, .int .i64 0), (w.heap.size, 5, .int .i64 d), (w.heap.size, 6, .slice A N c), (w.heap.size, 7, .int .i64 e)]) (by kernel_rfl) (by first | exact hHeld | (refine ⟨by go_grown, ?_⟩; simp [Cells, go_sem]; done)) (fun hHeld0 => ?_)
     refine tv 0 4 rfl rfl ?_
     try go_frame
     refine tv 1 5 rfl rfl ?_
     try go_frame
     refine tk 2 6 rfl rfl ?_ ?_ ?_
     rotate_left
     ·intro wq hSw; obtain ⟨⟨_,_,_⟩,⟨_,_,_⟩,⟨_,_,_⟩,⟨_,_,_⟩,⟨_,_,_⟩,⟨_,_,_⟩,⟨_,_,_⟩,⟨_,_,_⟩,_⟩ := hSw.2; go_simp; (try with_reducible rfl)
     try go_frame
     refine tv 3 7 rfl rfl ?_
     try go_frame
     refine tv 4 8 rfl rfl ?_
     try go_frame
     refine tv 5 9 rfl rfl ?_
     try go_frame
     refine tu 6 10 rfl rfl ?_
     try go_frame
     refine tu 7 11 rfl rfl ?_
     try go_frame
     refine tu 8 12 rfl rfl ?_
     try go_frame
     refine tu 9 13 rfl rfl ?_
     try go_frame
     refine tu 10 14 rfl rfl ?_
     try go_frame
     refine tu 11 15 rfl rfl ?_
     try go_frame
     refine tu 12 16 rfl rfl ?_
     try go_frame
     refine tu 13 17 rfl rfl ?_
     try go_frame
     refine tu 14 18 rfl rfl ?_
     try go_frame
     refine tv 15 19 rfl rfl ?_
     try go_frame
     refine tv 16 20 rfl rfl ?_
     try go_frame
     refine tu 17 21 rfl rfl ?_
     try go_frame
     refine tu 18 22 rfl rfl ?_
     try go_frame
     refine tu 19 23 rfl rfl ?_
     try go_frame
     refine tu 20 24 rfl rfl ?_
     try go_frame
     refine tu 21 25 rfl rfl ?_
     try go_frame
     refine tu 22 26 rfl rfl ?_
     try go_frame
     refine tv 23 27 rfl rfl ?_
     try go_frame
     refine tv 24 2 rfl rfl ?_
     try go_frame
     refine wpAnyH_done (by kernel_rfl) ?_ _
     have hHeld := hHeld0
     obtain ⟨⟨_,_,_⟩,⟨_,_,_⟩,⟨_,_,_⟩,⟨_,_,_⟩,⟨_,_,_⟩,⟨_,_,_⟩,⟨_,_,_⟩,⟨_,_,_⟩,_⟩ := hHeld.2
     all_goals
      go_wp2_with fail
      go_ret
      exact ⟨rfl, hHeld.1⟩
   ·have t4 : (n == 0) = false := by simpa using g3
    have e5 : (decide ((0 : Int) = 0 ∧ (0 : Int) = 0 ∧ n = 0 ∧ d = 0) && decide ((N : Int) = T) && bb) = false := by simp [g3]
    rw [e5]
    clear e5 g3
    go_enter Tryz.func176, Tryz.ntmps176
    go_wp2_with fail
    refine region_keeps (w0 := w) (L := [(w.heap.size, 0, .int .i64 k), (w.heap.size, 1, v), (w.heap.size, 2, .int .i64 0), (w.heap.size, 3, .int .i64 0), (w.heap.size, 4, .int .i64 n), (w.heap.size, 5, .int .i64 d), (w.heap.size, 6, .slice A N c), (w.heap.size, 7, .int .i64 e)]) (by kernel_rfl) (by first | exact hHeld | (refine ⟨by go_grown, ?_⟩; simp [Cells, go_sem]; done)) (fun hHeld0 => ?_)
    refine tv 0 4 rfl rfl ?_
    try go_frame
    refine tv 1 5 rfl rfl ?_
    try go_frame
    refine tk 2 6 rfl rfl ?_ ?_ ?_
    rotate_left
    ·intro wq hSw; obtain ⟨⟨_,_,_⟩,⟨_,_,_⟩,⟨_,_,_⟩,⟨_,_,_⟩,⟨_,_,_⟩,⟨_,_,_⟩,⟨_,_,_⟩,⟨_,_,_⟩,_⟩ := hSw.2; go_simp; (try with_reducible rfl)
    try go_frame
    refine tv 3 7 rfl rfl ?_
    try go_frame
    refine tv 4 8 rfl rfl ?_
    try go_frame
    refine tv 5 9 rfl rfl ?_
    try go_frame
    refine tu 6 10 rfl rfl ?_
    try go_frame
    refine tu 7 11 rfl rfl ?_
    try go_frame
    refine tu 8 12 rfl rfl ?_
    try go_frame
    refine tu 9 13 rfl rfl ?_
    try go_frame
    refine tu 10 14 rfl rfl ?_
    try go_frame
    refine tu 11 15 rfl rfl ?_
    try go_frame
    refine tu 12 16 rfl rfl ?_
    try go_frame
    refine tu 13 17 rfl rfl ?_
    try go_frame
    refine tu 14 18 rfl rfl ?_
    try go_frame
    refine tv 15 19 rfl rfl ?_
    try go_frame
    refine tv 16 20 rfl rfl ?_
    try go_frame
    refine tu 17 21 rfl rfl ?_
    try go_frame
    refine tu 18 22 rfl rfl ?_
    try go_frame
    refine tu 19 23 rfl rfl ?_
    try go_frame
    refine tu 20 24 rfl rfl ?_
    try go_frame
    refine tu 21 25 rfl rfl ?_
    try go_frame
    refine tu 22 26 rfl rfl ?_
    try go_frame
    refine tv 23 27 rfl rfl ?_
    try go_frame
    refine tv 24 2 rfl rfl ?_
    try go_frame
    refine wpAnyH_done (by kernel_rfl) ?_ _
    have hHeld := hHeld0
    obtain ⟨⟨_,_,_⟩,⟨_,_,_⟩,⟨_,_,_⟩,⟨_,_,_⟩,⟨_,_,_⟩,⟨_,_,_⟩,⟨_,_,_⟩,⟨_,_,_⟩,_⟩ := hHeld.2
    all_goals
     go_wp2_with fail
     go_ret
     exact ⟨rfl, hHeld.1⟩
  ·have t4 : (r == 0) = false := by simpa using g2
   have e5 : (decide ((0 : Int) = 0 ∧ r = 0 ∧ n = 0 ∧ d = 0) && decide ((N : Int) = T) && bb) = false := by simp [g2]
   rw [e5]
   clear e5 g2
   go_enter Tryz.func176, Tryz.ntmps176
   go_wp2_with fail
   refine region_keeps (w0 := w) (L := [(w.heap.size, 0, .int .i64 k), (w.heap.size, 1, v), (w.heap.size, 2, .int .i64 0), (w.heap.size, 3, .int .i64 r), (w.heap.size, 4, .int .i64 n), (w.heap.size, 5, .int .i64 d), (w.heap.size, 6, .slice A N c), (w.heap.size, 7, .int .i64 e)]) (by kernel_rfl) (by first | exact hHeld | (refine ⟨by go_grown, ?_⟩; simp [Cells, go_sem]; done)) (fun hHeld0 => ?_)
   refine tv 0 4 rfl rfl ?_
   try go_frame
   refine tv 1 5 rfl rfl ?_
   try go_frame
   refine tk 2 6 rfl rfl ?_ ?_ ?_
   rotate_left
   ·intro wq hSw; obtain ⟨⟨_,_,_⟩,⟨_,_,_⟩,⟨_,_,_⟩,⟨_,_,_⟩,⟨_,_,_⟩,⟨_,_,_⟩,⟨_,_,_⟩,⟨_,_,_⟩,_⟩ := hSw.2; go_simp; (try with_reducible rfl)
   try go_frame
   refine tv 3 7 rfl rfl ?_
   try go_frame
   refine tv 4 8 rfl rfl ?_
   try go_frame
   refine tv 5 9 rfl rfl ?_
   try go_frame
   refine tu 6 10 rfl rfl ?_
   try go_frame
   refine tu 7 11 rfl rfl ?_
   try go_frame
   refine tu 8 12 rfl rfl ?_
   try go_frame
   refine tu 9 13 rfl rfl ?_
   try go_frame
   refine tu 10 14 rfl rfl ?_
   try go_frame
   refine tu 11 15 rfl rfl ?_
   try go_frame
   refine tu 12 16 rfl rfl ?_
   try go_frame
   refine tu 13 17 rfl rfl ?_
   try go_frame
   refine tu 14 18 rfl rfl ?_
   try go_frame
   refine tv 15 19 rfl rfl ?_
   try go_frame
   refine tv 16 20 rfl rfl ?_
   try go_frame
   refine tu 17 21 rfl rfl ?_
   try go_frame
   refine tu 18 22 rfl rfl ?_
   try go_frame
   refine tu 19 23 rfl rfl ?_
   try go_frame
   refine tu 20 24 rfl rfl ?_
   try go_frame
   refine tu 21 25 rfl rfl ?_
   try go_frame
   refine tu 22 26 rfl rfl ?_
   try go_frame
   refine tv 23 27 rfl rfl ?_
   try go_frame
   refine tv 24 2 rfl rfl ?_
   try go_frame
   refine wpAnyH_done (by kernel_rfl) ?_ _
   have hHeld := hHeld0
   obtain ⟨⟨_,_,_⟩,⟨_,_,_⟩,⟨_,_,_⟩,⟨_,_,_⟩,⟨_,_,_⟩,⟨_,_,_⟩,⟨_,_,_⟩,⟨_,_,_⟩,_⟩ := hHeld.2
   all_goals
    go_wp2_with fail
    go_ret
    exact ⟨rfl, hHeld.1⟩
 ·have t4 : (a == 0) = false := by simpa using g1
  have e5 : (decide (a = 0 ∧ r = 0 ∧ n = 0 ∧ d = 0) && decide ((N : Int) = T) && bb) = false := by simp [g1]
  rw [e5]
  clear e5 g1
  go_enter Tryz.func176, Tryz.ntmps176
  go_wp2_with fail
  refine region_keeps (w0 := w) (L := [(w.heap.size, 0, .int .i64 k), (w.heap.size, 1, v), (w.heap.size, 2, .int .i64 a), (w.heap.size, 3, .int .i64 r), (w.heap.size, 4, .int .i64 n), (w.heap.size, 5, .int .i64 d), (w.heap.size, 6, .slice A N c), (w.heap.size, 7, .int .i64 e)]) (by kernel_rfl) (by first | exact hHeld | (refine ⟨by go_grown, ?_⟩; simp [Cells, go_sem]; done)) (fun hHeld0 => ?_)
  refine tv 0 4 rfl rfl ?_
  try go_frame
  refine tv 1 5 rfl rfl ?_
  try go_frame
  refine tk 2 6 rfl rfl ?_ ?_ ?_
  rotate_left
  ·intro wq hSw; obtain ⟨⟨_,_,_⟩,⟨_,_,_⟩,⟨_,_,_⟩,⟨_,_,_⟩,⟨_,_,_⟩,⟨_,_,_⟩,⟨_,_,_⟩,⟨_,_,_⟩,_⟩ := hSw.2; go_simp; (try with_reducible rfl)
  try go_frame
  refine tv 3 7 rfl rfl ?_
  try go_frame
  refine tv 4 8 rfl rfl ?_
  try go_frame
  refine tv 5 9 rfl rfl ?_
  try go_frame
  refine tu 6 10 rfl rfl ?_
  try go_frame
  refine tu 7 11 rfl rfl ?_
  try go_frame
  refine tu 8 12 rfl rfl ?_
  try go_frame
  refine tu 9 13 rfl rfl ?_
  try go_frame
  refine tu 10 14 rfl rfl ?_
  try go_frame
  refine tu 11 15 rfl rfl ?_
  try go_frame
  refine tu 12 16 rfl rfl ?_
  try go_frame
  refine tu 13 17 rfl rfl ?_
  try go_frame
  refine tu 14 18 rfl rfl ?_
  try go_frame
  refine tv 15 19 rfl rfl ?_
  try go_frame
  refine tv 16 20 rfl rfl ?_
  try go_frame
  refine tu 17 21 rfl rfl ?_
  try go_frame
  refine tu 18 22 rfl rfl ?_
  try go_frame
  refine tu 19 23 rfl rfl ?_
  try go_frame
  refine tu 20 24 rfl rfl ?_
  try go_frame
  refine tu 21 25 rfl rfl ?_
  try go_frame
  refine tu 22 26 rfl rfl ?_
  try go_frame
  refine tv 23 27 rfl rfl ?_
  try go_frame
  refine tv 24 2 rfl rfl ?_
  try go_frame
  refine wpAnyH_done (by kernel_rfl) ?_ _
  have hHeld := hHeld0
  obtain ⟨⟨_,_,_⟩,⟨_,_,_⟩,⟨_,_,_⟩,⟨_,_,_⟩,⟨_,_,_⟩,⟨_,_,_⟩,⟨_,_,_⟩,⟨_,_,_⟩,_⟩ := hHeld.2
  all_goals
   go_wp2_with fail
   go_ret
   exact ⟨rfl, hHeld.1⟩
end Go.Proofs.YtcfidimnbamnkaaGreat.P11
