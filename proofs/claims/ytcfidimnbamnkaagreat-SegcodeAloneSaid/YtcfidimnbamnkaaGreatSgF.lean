/-
 Layer 11: may a segment be (Check). Conditions: those written at each fact.
-/
import Derived.Test.YtcfidimnbamnkaaGreatKitW
import Derived.Maps.RangeWalk
import Derived.Test.YtcfidimnbamnkaaGreatSgC
import Derived.Test.YtcfidimnbamnkaaGreatSgD
import Derived.Test.YtcfidimnbamnkaaGreatSgE
namespace Go.Proofs.YtcfidimnbamnkaaGreat.P11
open Go.RowKit Go.Shelf Go.Proofs.YtcfidimnbamnkaaGreat.P7

theorem fieldK0 (a b c : Value) (W : World) : (Instr.field 116 (.agg #[a, b, c]) 0).run Tryz.prog W = .ok a W := run_field W _ _ _ 0 _ _ Tryz.underlying116 rfl (Tryz.isAgg112 W) rfl
theorem fieldK1 (a b c : Value) (W : World) : (Instr.field 116 (.agg #[a, b, c]) 1).run Tryz.prog W = .ok b W := run_field W _ _ _ 1 _ _ Tryz.underlying116 rfl (Tryz.isAgg113 W) rfl
theorem fieldK2 (a b c : Value) (W : World) : (Instr.field 116 (.agg #[a, b, c]) 2).run Tryz.prog W = .ok c W := run_field W _ _ _ 2 _ _ Tryz.underlying116 rfl (Tryz.isAgg114 W) rfl
attribute [local go_sem] fieldK0 fieldK1 fieldK2
theorem segB_line {s : Sg} (hok : okB s.R = true) (h0 : 0 ≤ s.e) (h1 : s.e ≤ 1099511627776) (hk : s.k ≠ 4) : segB s = lineAll s := by
 unfold segB lineAll
 rw [hok, decide_eq_true h0, decide_eq_true h1, if_neg hk]
 rfl
theorem segB_raw {s : Sg} (hok : okB s.R = true) (h0 : 0 ≤ s.e) (h1 : s.e ≤ 1099511627776) (hk : s.k = 4) : segB s = (rawOk s && backs s.V) := by
 have e : vals s = s.V := by unfold vals; rw [if_pos hk]
 unfold segB
 rw [hok, decide_eq_true h0, decide_eq_true h1, if_pos hk, e]
 rfl
theorem segB_no {s : Sg} (h : s.k < 1 ∨ 4 < s.k ∨ s.e < 0 ∨ 1099511627776 < s.e ∨ okB s.R = false) : segB s = false := by
 rw [← Bool.not_eq_true]
 intro hb
 obtain ⟨h1, h2, h3, h4, _⟩ := (segB_iff s).1 hb
 rcases segB_kind hb with ⟨k, _⟩ | ⟨k, _⟩
 ·rcases h with h | h | h | h | h
  ·omega
  ·omega
  ·omega
  ·omega
  ·rw [h1] at h; cases h
 ·rcases h with h | h | h | h | h
  ·omega
  ·omega
  ·omega
  ·omega
  ·rw [h1] at h; cases h
set_option maxRecDepth 100000 in
set_option maxHeartbeats 2000000 in
theorem mayBe_any (s : Sg) (hR : s.R.length ≤ 1000000) (hV : s.V.length ≤ 1000000) (v u : Value) (w : World) (h : ReadsR w v s.R) (hu : Reads .i64 w u s.V) :
  Calls Tryz.prog 57 #[sgV s.k v s.a s.r s.n s.d u s.e] w (Ret w (.bool (segB s))) := by
 have CK := fun W (hb : Below w.heap.size w W) => checkA_any s.R hR v W (h.below hb)
 have HL := fun hok hk W (hb : Below w.heap.size w W) => hasLine_any s hok hk v u W (h.below hb) (hu.below hb)
 have HR := fun hok W (hb : Below w.heap.size w W) => hasRaw_any s hok hV v u W (h.below hb) (hu.below hb)
 have NO := segB_no (s := s)
 have LI := segB_line (s := s)
 have RA := segB_raw (s := s)
 generalize segB s = sb at *
 generalize lineAll s = la at *
 generalize (rawOk s && backs s.V) = ra at *
 obtain ⟨k, R, a, r, n, d, V, e⟩ := s
 simp only at *
 clear h hu hR hV
 by_cases g1 : k < 1
 ·obtain rfl := NO (.inl g1)
  have t1 : decide (k < 1) = true := by simpa using g1
  clear NO LI RA CK HL HR
  go_enter Tryz.func57, Tryz.ntmps57
  go_wp2_with fail
  go_ret
  exact ⟨rfl, below_alloc _ _⟩
 have t1 : decide (k < 1) = false := by simpa using g1
 by_cases g2 : 4 < k
 ·obtain rfl := NO (.inr (.inl g2))
  have t2 : decide (4 < k) = true := by simpa using g2
  clear NO LI RA CK HL HR
  go_enter Tryz.func57, Tryz.ntmps57
  go_wp2_with fail
  go_ret
  exact ⟨rfl, below_alloc _ _⟩
 have t2 : decide (4 < k) = false := by simpa using g2
 by_cases g3 : e < 0
 ·obtain rfl := NO (.inr (.inr (.inl g3)))
  have t3 : decide (e < 0) = true := by simpa using g3
  clear NO LI RA CK HL HR
  go_enter Tryz.func57, Tryz.ntmps57
  go_wp2_with fail
  go_ret
  exact ⟨rfl, below_alloc _ _⟩
 have t3 : decide (e < 0) = false := by simpa using g3
 by_cases g4 : 1099511627776 < e
 ·obtain rfl := NO (.inr (.inr (.inr (.inl g4))))
  have t4 : decide (1099511627776 < e) = true := by simpa using g4
  clear NO LI RA CK HL HR
  go_enter Tryz.func57, Tryz.ntmps57
  go_wp2_with fail
  go_ret
  exact ⟨rfl, below_alloc _ _⟩
 have t4 : decide (1099511627776 < e) = false := by simpa using g4
 cases g5 : okB R
 ·obtain rfl := NO (.inr (.inr (.inr (.inr g5))))
  rw [g5] at CK
  replace CK := Lib.hid CK
  clear NO LI RA HL HR g5
  go_enter Tryz.func57, Tryz.ntmps57
  go_wp2_with fail
  refine region_keeps (w0 := w) (L := [(w.heap.size, 0, .int .i64 k), (w.heap.size, 1, v), (w.heap.size, 2, .int .i64 a), (w.heap.size, 3, .int .i64 r), (w.heap.size, 4, .int .i64 n), (w.heap.size, 5, .int .i64 d), (w.heap.size, 6, u), (w.heap.size, 7, .int .i64 e)]) (by kernel_rfl) (by first | exact hHeld | (refine ⟨by go_grown, ?_⟩; simp [Cells, go_sem]; done)) (fun hHeld0 => ?_)
  refine tv 0 25 rfl rfl ?_
  try go_frame
  refine tv 1 26 rfl rfl ?_
  try go_frame
  refine tk 2 27 rfl rfl ?_ ?_ ?_
  rotate_left
  ·intro wq hSw; obtain ⟨⟨_,_,_⟩,⟨_,_,_⟩,⟨_,_,_⟩,⟨_,_,_⟩,⟨_,_,_⟩,⟨_,_,_⟩,⟨_,_,_⟩,⟨_,_,_⟩,_⟩ := hSw.2; go_simp; (try with_reducible rfl)
  try go_frame
  refine ty [3] ?_
  refine AllReadyH.cons rfl (fun K hK => ?_) AllReadyH.nil
  go_simp
  ((with_reducible refine (CK.out _ (by first | with_reducible exact kbel hHeld0 | with_reducible exact kbel hHeld1 | with_reducible exact kbel hHeld2 | with_reducible exact kbel hHeld3 | with_reducible exact kbel hHeld4 | with_reducible exact kbel hHeld5 | with_reducible exact kbel hHeld6 | with_reducible exact kbel hHeld7 | with_reducible exact kbel hHeld8 | with_reducible exact kbel hHeld9 | with_reducible exact kbel hHeld10 | with_reducible exact kbel hHeld11 | with_reducible exact kbel hHeld12 | with_reducible exact kbel hHeld13)).mono ?_); rintro e w1 ⟨rfl, hb⟩)
  refine hK.out _ _ (hHeld0.next hb) (fun hHeld1 => ?_)
  clear hK K; try clear hb
  try go_frame
  refine tv 4 29 rfl rfl ?_
  try go_frame
  refine tv 5 30 rfl rfl ?_
  try go_frame
  refine tu 6 31 rfl rfl ?_
  try go_frame
  refine tu 7 32 rfl rfl ?_
  try go_frame
  refine tu 8 33 rfl rfl ?_
  try go_frame
  refine tu 9 34 rfl rfl ?_
  try go_frame
  refine tu 10 35 rfl rfl ?_
  try go_frame
  refine tv 11 36 rfl rfl ?_
  try go_frame
  refine tv 12 2 rfl rfl ?_
  try go_frame
  refine wpAnyH_done (by kernel_rfl) ?_ _
  have hHeld := hHeld1
  obtain ⟨⟨kz0,kc0,kf0⟩,⟨kz1,kc1,kf1⟩,⟨kz2,kc2,kf2⟩,⟨kz3,kc3,kf3⟩,⟨kz4,kc4,kf4⟩,⟨kz5,kc5,kf5⟩,⟨kz6,kc6,kf6⟩,⟨kz7,kc7,kf7⟩,_⟩ := hHeld.2
  all_goals
   have hB := hHeld.1
   clear hHeld hHeld0 hHeld1
   (try clear hHeld0); (try clear hHeld1); (try clear hHeld2); (try clear hHeld3); (try clear hHeld4); (try clear hHeld5); (try clear hHeld6); (try clear hHeld7); (try clear hHeld8); (try clear hHeld9); (try clear hHeld10); (try clear hHeld11); (try clear hHeld12); (try clear hHeld13); (try clear kz0 kc0 kf0); (try clear kz1 kc1 kf1); (try clear kz2 kc2 kf2); (try clear kz3 kc3 kf3); (try clear kz4 kc4 kf4); (try clear kz5 kc5 kf5); (try clear kz6 kc6 kf6); (try clear kz7 kc7 kf7)
   go_wp2_with fail
   go_ret
   exact ⟨rfl, hB⟩
 have CK0 := Lib.hid (fun W hb => (by have := CK W hb; rwa [g5, if_pos rfl] at this : Calls Tryz.prog 114 #[v] W (Ret W (.int .i64 0))))
 have h0 : 0 ≤ e := by omega
 have h1 : e ≤ 1099511627776 := by omega
 by_cases g6 : k = 4
 ·obtain rfl := RA g5 h0 h1 g6
  have HR' := Lib.hid (HR g5)
  have SA := Lib.hid (fun W => says_raw v a r n d u e W)
  subst g6
  clear NO LI RA HL HR CK g5 h0 h1
  go_enter Tryz.func57, Tryz.ntmps57
  go_wp2_with fail
  refine region_keeps (w0 := w) (L := [(w.heap.size, 0, .int .i64 4), (w.heap.size, 1, v), (w.heap.size, 2, .int .i64 a), (w.heap.size, 3, .int .i64 r), (w.heap.size, 4, .int .i64 n), (w.heap.size, 5, .int .i64 d), (w.heap.size, 6, u), (w.heap.size, 7, .int .i64 e)]) (by kernel_rfl) (by first | exact hHeld | (refine ⟨by go_grown, ?_⟩; simp [Cells, go_sem]; done)) (fun hHeld0 => ?_)
  refine tv 0 25 rfl rfl ?_
  try go_frame
  refine tv 1 26 rfl rfl ?_
  try go_frame
  refine tk 2 27 rfl rfl ?_ ?_ ?_
  rotate_left
  ·intro wq hSw; obtain ⟨⟨_,_,_⟩,⟨_,_,_⟩,⟨_,_,_⟩,⟨_,_,_⟩,⟨_,_,_⟩,⟨_,_,_⟩,⟨_,_,_⟩,⟨_,_,_⟩,_⟩ := hSw.2; go_simp; (try with_reducible rfl)
  try go_frame
  refine ty [3] ?_
  refine AllReadyH.cons rfl (fun K hK => ?_) AllReadyH.nil
  go_simp
  ((with_reducible refine (CK0.out _ (by first | with_reducible exact kbel hHeld0 | with_reducible exact kbel hHeld1 | with_reducible exact kbel hHeld2 | with_reducible exact kbel hHeld3 | with_reducible exact kbel hHeld4 | with_reducible exact kbel hHeld5 | with_reducible exact kbel hHeld6 | with_reducible exact kbel hHeld7 | with_reducible exact kbel hHeld8 | with_reducible exact kbel hHeld9 | with_reducible exact kbel hHeld10 | with_reducible exact kbel hHeld11 | with_reducible exact kbel hHeld12 | with_reducible exact kbel hHeld13)).mono ?_); rintro e w1 ⟨rfl, hb⟩)
  refine hK.out _ _ (hHeld0.next hb) (fun hHeld1 => ?_)
  clear hK K; try clear hb
  try go_frame
  refine tv 4 29 rfl rfl ?_
  try go_frame
  refine tv 5 30 rfl rfl ?_
  try go_frame
  refine tk 6 31 rfl rfl ?_ ?_ ?_
  rotate_left
  ·intro wq hSw; obtain ⟨⟨_,_,_⟩,⟨_,_,_⟩,⟨_,_,_⟩,⟨_,_,_⟩,⟨_,_,_⟩,⟨_,_,_⟩,⟨_,_,_⟩,⟨_,_,_⟩,_⟩ := hSw.2; go_simp; (try with_reducible rfl)
  try go_frame
  refine tk 9 34 rfl rfl ?_ ?_ ?_
  rotate_left
  ·intro wq hSw; obtain ⟨⟨_,_,_⟩,⟨_,_,_⟩,⟨_,_,_⟩,⟨_,_,_⟩,⟨_,_,_⟩,⟨_,_,_⟩,⟨_,_,_⟩,⟨_,_,_⟩,_⟩ := hSw.2; go_simp; (try with_reducible rfl)
  try go_frame
  refine ty [7] ?_
  refine AllReadyH.cons rfl (fun K hK => ?_) AllReadyH.nil
  go_simp
  ((with_reducible refine (SA.out _).mono ?_); rintro e w2 ⟨rfl, hb⟩)
  refine hK.out _ _ (hHeld1.next hb) (fun hHeld2 => ?_)
  clear hK K; try clear hb
  try go_frame
  refine tv 8 33 rfl rfl ?_
  try go_frame
  refine ty [10] ?_
  refine AllReadyH.cons rfl (fun K hK => ?_) AllReadyH.nil
  go_simp
  ((with_reducible refine (HR'.out _ (by first | with_reducible exact kbel hHeld0 | with_reducible exact kbel hHeld1 | with_reducible exact kbel hHeld2 | with_reducible exact kbel hHeld3 | with_reducible exact kbel hHeld4 | with_reducible exact kbel hHeld5 | with_reducible exact kbel hHeld6 | with_reducible exact kbel hHeld7 | with_reducible exact kbel hHeld8 | with_reducible exact kbel hHeld9 | with_reducible exact kbel hHeld10 | with_reducible exact kbel hHeld11 | with_reducible exact kbel hHeld12 | with_reducible exact kbel hHeld13)).mono ?_); rintro e w3 ⟨rfl, hb⟩)
  refine hK.out _ _ (hHeld2.next hb) (fun hHeld3 => ?_)
  clear hK K; try clear hb
  try go_frame
  refine tv 11 36 rfl rfl ?_
  try go_frame
  refine tv 12 2 rfl rfl ?_
  try go_frame
  refine wpAnyH_done (by kernel_rfl) ?_ _
  have hHeld := hHeld3
  obtain ⟨⟨kz0,kc0,kf0⟩,⟨kz1,kc1,kf1⟩,⟨kz2,kc2,kf2⟩,⟨kz3,kc3,kf3⟩,⟨kz4,kc4,kf4⟩,⟨kz5,kc5,kf5⟩,⟨kz6,kc6,kf6⟩,⟨kz7,kc7,kf7⟩,_⟩ := hHeld.2
  all_goals
   have hB := hHeld.1
   clear hHeld hHeld0
   (try clear hHeld0); (try clear hHeld1); (try clear hHeld2); (try clear hHeld3); (try clear hHeld4); (try clear hHeld5); (try clear hHeld6); (try clear hHeld7); (try clear hHeld8); (try clear hHeld9); (try clear hHeld10); (try clear hHeld11); (try clear hHeld12); (try clear hHeld13); (try clear kz0 kc0 kf0); (try clear kz1 kc1 kf1); (try clear kz2 kc2 kf2); (try clear kz3 kc3 kf3); (try clear kz4 kc4 kf4); (try clear kz5 kc5 kf5); (try clear kz6 kc6 kf6); (try clear kz7 kc7 kf7)
   go_wp2_with fail
   go_ret
   exact ⟨rfl, hB⟩
 ·have hk3 : k = 1 ∨ k = 2 ∨ k = 3 := by omega
  obtain rfl := LI g5 h0 h1 g6
  have HL' := Lib.hid (HL g5 hk3)
  clear NO LI RA HL HR CK g5 h0 h1 g6 t1 t2 g1 g2
  rcases hk3 with rfl | rfl | rfl
  ·have SA := Lib.hid (fun W => says_flat v a r n d u e W)
   go_enter Tryz.func57, Tryz.ntmps57
   go_wp2_with fail
   refine region_keeps (w0 := w) (L := [(w.heap.size, 0, .int .i64 1), (w.heap.size, 1, v), (w.heap.size, 2, .int .i64 a), (w.heap.size, 3, .int .i64 r), (w.heap.size, 4, .int .i64 n), (w.heap.size, 5, .int .i64 d), (w.heap.size, 6, u), (w.heap.size, 7, .int .i64 e)]) (by kernel_rfl) (by first | exact hHeld | (refine ⟨by go_grown, ?_⟩; simp [Cells, go_sem]; done)) (fun hHeld0 => ?_)
   refine tv 0 25 rfl rfl ?_
   try go_frame
   refine tv 1 26 rfl rfl ?_
   try go_frame
   refine tk 2 27 rfl rfl ?_ ?_ ?_
   rotate_left
   ·intro wq hSw; obtain ⟨⟨_,_,_⟩,⟨_,_,_⟩,⟨_,_,_⟩,⟨_,_,_⟩,⟨_,_,_⟩,⟨_,_,_⟩,⟨_,_,_⟩,⟨_,_,_⟩,_⟩ := hSw.2; go_simp; (try with_reducible rfl)
   try go_frame
   refine ty [3] ?_
   refine AllReadyH.cons rfl (fun K hK => ?_) AllReadyH.nil
   go_simp
   ((with_reducible refine (CK0.out _ (by first | with_reducible exact kbel hHeld0 | with_reducible exact kbel hHeld1 | with_reducible exact kbel hHeld2 | with_reducible exact kbel hHeld3 | with_reducible exact kbel hHeld4 | with_reducible exact kbel hHeld5 | with_reducible exact kbel hHeld6 | with_reducible exact kbel hHeld7 | with_reducible exact kbel hHeld8 | with_reducible exact kbel hHeld9 | with_reducible exact kbel hHeld10 | with_reducible exact kbel hHeld11 | with_reducible exact kbel hHeld12 | with_reducible exact kbel hHeld13)).mono ?_); rintro e w1 ⟨rfl, hb⟩)
   refine hK.out _ _ (hHeld0.next hb) (fun hHeld1 => ?_)
   clear hK K; try clear hb
   try go_frame
   refine tv 4 29 rfl rfl ?_
   try go_frame
   refine tv 5 30 rfl rfl ?_
   try go_frame
   refine tk 6 31 rfl rfl ?_ ?_ ?_
   rotate_left
   ·intro wq hSw; obtain ⟨⟨_,_,_⟩,⟨_,_,_⟩,⟨_,_,_⟩,⟨_,_,_⟩,⟨_,_,_⟩,⟨_,_,_⟩,⟨_,_,_⟩,⟨_,_,_⟩,_⟩ := hSw.2; go_simp; (try with_reducible rfl)
   try go_frame
   refine tk 9 34 rfl rfl ?_ ?_ ?_
   rotate_left
   ·intro wq hSw; obtain ⟨⟨_,_,_⟩,⟨_,_,_⟩,⟨_,_,_⟩,⟨_,_,_⟩,⟨_,_,_⟩,⟨_,_,_⟩,⟨_,_,_⟩,⟨_,_,_⟩,_⟩ := hSw.2; go_simp; (try with_reducible rfl)
   try go_frame
   refine ty [7] ?_
   refine AllReadyH.cons rfl (fun K hK => ?_) AllReadyH.nil
   go_simp
   ((with_reducible refine (SA.out _).mono ?_); rintro e w2 ⟨rfl, hb⟩)
   refine hK.out _ _ (hHeld1.next hb) (fun hHeld2 => ?_)
   clear hK K; try clear hb
   try go_frame
   refine tv 8 33 rfl rfl ?_
   try go_frame
   refine ty [10] ?_
   refine AllReadyH.cons rfl (fun K hK => ?_) AllReadyH.nil
   go_simp
   ((with_reducible refine (HL'.out _ (by first | with_reducible exact kbel hHeld0 | with_reducible exact kbel hHeld1 | with_reducible exact kbel hHeld2 | with_reducible exact kbel hHeld3 | with_reducible exact kbel hHeld4 | with_reducible exact kbel hHeld5 | with_reducible exact kbel hHeld6 | with_reducible exact kbel hHeld7 | with_reducible exact kbel hHeld8 | with_reducible exact kbel hHeld9 | with_reducible exact kbel hHeld10 | with_reducible exact kbel hHeld11 | with_reducible exact kbel hHeld12 | with_reducible exact kbel hHeld13)).mono ?_); rintro e w3 ⟨rfl, hb⟩)
   refine hK.out _ _ (hHeld2.next hb) (fun hHeld3 => ?_)
   clear hK K; try clear hb
   try go_frame
   refine tv 11 36 rfl rfl ?_
   try go_frame
   refine tv 12 2 rfl rfl ?_
   try go_frame
   refine wpAnyH_done (by kernel_rfl) ?_ _
   have hHeld := hHeld3
   obtain ⟨⟨kz0,kc0,kf0⟩,⟨kz1,kc1,kf1⟩,⟨kz2,kc2,kf2⟩,⟨kz3,kc3,kf3⟩,⟨kz4,kc4,kf4⟩,⟨kz5,kc5,kf5⟩,⟨kz6,kc6,kf6⟩,⟨kz7,kc7,kf7⟩,_⟩ := hHeld.2
   all_goals
    have hB := hHeld.1
    clear hHeld hHeld0
    (try clear hHeld0); (try clear hHeld1); (try clear hHeld2); (try clear hHeld3); (try clear hHeld4); (try clear hHeld5); (try clear hHeld6); (try clear hHeld7); (try clear hHeld8); (try clear hHeld9); (try clear hHeld10); (try clear hHeld11); (try clear hHeld12); (try clear hHeld13); (try clear kz0 kc0 kf0); (try clear kz1 kc1 kf1); (try clear kz2 kc2 kf2); (try clear kz3 kc3 kf3); (try clear kz4 kc4 kf4); (try clear kz5 kc5 kf5); (try clear kz6 kc6 kf6); (try clear kz7 kc7 kf7)
    go_wp2_with fail
    go_ret
    exact ⟨rfl, hB⟩
  ·have SA := Lib.hid (fun W => says_tilt v a r n d u e W)
   go_enter Tryz.func57, Tryz.ntmps57
   go_wp2_with fail
   refine region_keeps (w0 := w) (L := [(w.heap.size, 0, .int .i64 2), (w.heap.size, 1, v), (w.heap.size, 2, .int .i64 a), (w.heap.size, 3, .int .i64 r), (w.heap.size, 4, .int .i64 n), (w.heap.size, 5, .int .i64 d), (w.heap.size, 6, u), (w.heap.size, 7, .int .i64 e)]) (by kernel_rfl) (by first | exact hHeld | (refine ⟨by go_grown, ?_⟩; simp [Cells, go_sem]; done)) (fun hHeld0 => ?_)
   refine tv 0 25 rfl rfl ?_
   try go_frame
   refine tv 1 26 rfl rfl ?_
   try go_frame
   refine tk 2 27 rfl rfl ?_ ?_ ?_
   rotate_left
   ·intro wq hSw; obtain ⟨⟨_,_,_⟩,⟨_,_,_⟩,⟨_,_,_⟩,⟨_,_,_⟩,⟨_,_,_⟩,⟨_,_,_⟩,⟨_,_,_⟩,⟨_,_,_⟩,_⟩ := hSw.2; go_simp; (try with_reducible rfl)
   try go_frame
   refine ty [3] ?_
   refine AllReadyH.cons rfl (fun K hK => ?_) AllReadyH.nil
   go_simp
   ((with_reducible refine (CK0.out _ (by first | with_reducible exact kbel hHeld0 | with_reducible exact kbel hHeld1 | with_reducible exact kbel hHeld2 | with_reducible exact kbel hHeld3 | with_reducible exact kbel hHeld4 | with_reducible exact kbel hHeld5 | with_reducible exact kbel hHeld6 | with_reducible exact kbel hHeld7 | with_reducible exact kbel hHeld8 | with_reducible exact kbel hHeld9 | with_reducible exact kbel hHeld10 | with_reducible exact kbel hHeld11 | with_reducible exact kbel hHeld12 | with_reducible exact kbel hHeld13)).mono ?_); rintro e w1 ⟨rfl, hb⟩)
   refine hK.out _ _ (hHeld0.next hb) (fun hHeld1 => ?_)
   clear hK K; try clear hb
   try go_frame
   refine tv 4 29 rfl rfl ?_
   try go_frame
   refine tv 5 30 rfl rfl ?_
   try go_frame
   refine tk 6 31 rfl rfl ?_ ?_ ?_
   rotate_left
   ·intro wq hSw; obtain ⟨⟨_,_,_⟩,⟨_,_,_⟩,⟨_,_,_⟩,⟨_,_,_⟩,⟨_,_,_⟩,⟨_,_,_⟩,⟨_,_,_⟩,⟨_,_,_⟩,_⟩ := hSw.2; go_simp; (try with_reducible rfl)
   try go_frame
   refine tk 9 34 rfl rfl ?_ ?_ ?_
   rotate_left
   ·intro wq hSw; obtain ⟨⟨_,_,_⟩,⟨_,_,_⟩,⟨_,_,_⟩,⟨_,_,_⟩,⟨_,_,_⟩,⟨_,_,_⟩,⟨_,_,_⟩,⟨_,_,_⟩,_⟩ := hSw.2; go_simp; (try with_reducible rfl)
   try go_frame
   refine ty [7] ?_
   refine AllReadyH.cons rfl (fun K hK => ?_) AllReadyH.nil
   go_simp
   ((with_reducible refine (SA.out _).mono ?_); rintro e w2 ⟨rfl, hb⟩)
   refine hK.out _ _ (hHeld1.next hb) (fun hHeld2 => ?_)
   clear hK K; try clear hb
   try go_frame
   refine tv 8 33 rfl rfl ?_
   try go_frame
   refine ty [10] ?_
   refine AllReadyH.cons rfl (fun K hK => ?_) AllReadyH.nil
   go_simp
   ((with_reducible refine (HL'.out _ (by first | with_reducible exact kbel hHeld0 | with_reducible exact kbel hHeld1 | with_reducible exact kbel hHeld2 | with_reducible exact kbel hHeld3 | with_reducible exact kbel hHeld4 | with_reducible exact kbel hHeld5 | with_reducible exact kbel hHeld6 | with_reducible exact kbel hHeld7 | with_reducible exact kbel hHeld8 | with_reducible exact kbel hHeld9 | with_reducible exact kbel hHeld10 | with_reducible exact kbel hHeld11 | with_reducible exact kbel hHeld12 | with_reducible exact kbel hHeld13)).mono ?_); rintro e w3 ⟨rfl, hb⟩)
   refine hK.out _ _ (hHeld2.next hb) (fun hHeld3 => ?_)
   clear hK K; try clear hb
   try go_frame
   refine tv 11 36 rfl rfl ?_
   try go_frame
   refine tv 12 2 rfl rfl ?_
   try go_frame
   refine wpAnyH_done (by kernel_rfl) ?_ _
   have hHeld := hHeld3
   obtain ⟨⟨kz0,kc0,kf0⟩,⟨kz1,kc1,kf1⟩,⟨kz2,kc2,kf2⟩,⟨kz3,kc3,kf3⟩,⟨kz4,kc4,kf4⟩,⟨kz5,kc5,kf5⟩,⟨kz6,kc6,kf6⟩,⟨kz7,kc7,kf7⟩,_⟩ := hHeld.2
   all_goals
    have hB := hHeld.1
    clear hHeld hHeld0
    (try clear hHeld0); (try clear hHeld1); (try clear hHeld2); (try clear hHeld3); (try clear hHeld4); (try clear hHeld5); (try clear hHeld6); (try clear hHeld7); (try clear hHeld8); (try clear hHeld9); (try clear hHeld10); (try clear hHeld11); (try clear hHeld12); (try clear hHeld13); (try clear kz0 kc0 kf0); (try clear kz1 kc1 kf1); (try clear kz2 kc2 kf2); (try clear kz3 kc3 kf3); (try clear kz4 kc4 kf4); (try clear kz5 kc5 kf5); (try clear kz6 kc6 kf6); (try clear kz7 kc7 kf7)
    go_wp2_with fail
    go_ret
    exact ⟨rfl, hB⟩
  ·have SA := Lib.hid (fun W => says_free v a r n d u e W)
   go_enter Tryz.func57, Tryz.ntmps57
   go_wp2_with fail
   refine region_keeps (w0 := w) (L := [(w.heap.size, 0, .int .i64 3), (w.heap.size, 1, v), (w.heap.size, 2, .int .i64 a), (w.heap.size, 3, .int .i64 r), (w.heap.size, 4, .int .i64 n), (w.heap.size, 5, .int .i64 d), (w.heap.size, 6, u), (w.heap.size, 7, .int .i64 e)]) (by kernel_rfl) (by first | exact hHeld | (refine ⟨by go_grown, ?_⟩; simp [Cells, go_sem]; done)) (fun hHeld0 => ?_)
   refine tv 0 25 rfl rfl ?_
   try go_frame
   refine tv 1 26 rfl rfl ?_
   try go_frame
   refine tk 2 27 rfl rfl ?_ ?_ ?_
   rotate_left
   ·intro wq hSw; obtain ⟨⟨_,_,_⟩,⟨_,_,_⟩,⟨_,_,_⟩,⟨_,_,_⟩,⟨_,_,_⟩,⟨_,_,_⟩,⟨_,_,_⟩,⟨_,_,_⟩,_⟩ := hSw.2; go_simp; (try with_reducible rfl)
   try go_frame
   refine ty [3] ?_
   refine AllReadyH.cons rfl (fun K hK => ?_) AllReadyH.nil
   go_simp
   ((with_reducible refine (CK0.out _ (by first | with_reducible exact kbel hHeld0 | with_reducible exact kbel hHeld1 | with_reducible exact kbel hHeld2 | with_reducible exact kbel hHeld3 | with_reducible exact kbel hHeld4 | with_reducible exact kbel hHeld5 | with_reducible exact kbel hHeld6 | with_reducible exact kbel hHeld7 | with_reducible exact kbel hHeld8 | with_reducible exact kbel hHeld9 | with_reducible exact kbel hHeld10 | with_reducible exact kbel hHeld11 | with_reducible exact kbel hHeld12 | with_reducible exact kbel hHeld13)).mono ?_); rintro e w1 ⟨rfl, hb⟩)
   refine hK.out _ _ (hHeld0.next hb) (fun hHeld1 => ?_)
   clear hK K; try clear hb
   try go_frame
   refine tv 4 29 rfl rfl ?_
   try go_frame
   refine tv 5 30 rfl rfl ?_
   try go_frame
   refine tk 6 31 rfl rfl ?_ ?_ ?_
   rotate_left
   ·intro wq hSw; obtain ⟨⟨_,_,_⟩,⟨_,_,_⟩,⟨_,_,_⟩,⟨_,_,_⟩,⟨_,_,_⟩,⟨_,_,_⟩,⟨_,_,_⟩,⟨_,_,_⟩,_⟩ := hSw.2; go_simp; (try with_reducible rfl)
   try go_frame
   refine tk 9 34 rfl rfl ?_ ?_ ?_
   rotate_left
   ·intro wq hSw; obtain ⟨⟨_,_,_⟩,⟨_,_,_⟩,⟨_,_,_⟩,⟨_,_,_⟩,⟨_,_,_⟩,⟨_,_,_⟩,⟨_,_,_⟩,⟨_,_,_⟩,_⟩ := hSw.2; go_simp; (try with_reducible rfl)
   try go_frame
   refine ty [7] ?_
   refine AllReadyH.cons rfl (fun K hK => ?_) AllReadyH.nil
   go_simp
   ((with_reducible refine (SA.out _).mono ?_); rintro e w2 ⟨rfl, hb⟩)
   refine hK.out _ _ (hHeld1.next hb) (fun hHeld2 => ?_)
   clear hK K; try clear hb
   try go_frame
   refine tv 8 33 rfl rfl ?_
   try go_frame
   refine ty [10] ?_
   refine AllReadyH.cons rfl (fun K hK => ?_) AllReadyH.nil
   go_simp
   ((with_reducible refine (HL'.out _ (by first | with_reducible exact kbel hHeld0 | with_reducible exact kbel hHeld1 | with_reducible exact kbel hHeld2 | with_reducible exact kbel hHeld3 | with_reducible exact kbel hHeld4 | with_reducible exact kbel hHeld5 | with_reducible exact kbel hHeld6 | with_reducible exact kbel hHeld7 | with_reducible exact kbel hHeld8 | with_reducible exact kbel hHeld9 | with_reducible exact kbel hHeld10 | with_reducible exact kbel hHeld11 | with_reducible exact kbel hHeld12 | with_reducible exact kbel hHeld13)).mono ?_); rintro e w3 ⟨rfl, hb⟩)
   refine hK.out _ _ (hHeld2.next hb) (fun hHeld3 => ?_)
   clear hK K; try clear hb
   try go_frame
   refine tv 11 36 rfl rfl ?_
   try go_frame
   refine tv 12 2 rfl rfl ?_
   try go_frame
   refine wpAnyH_done (by kernel_rfl) ?_ _
   have hHeld := hHeld3
   obtain ⟨⟨kz0,kc0,kf0⟩,⟨kz1,kc1,kf1⟩,⟨kz2,kc2,kf2⟩,⟨kz3,kc3,kf3⟩,⟨kz4,kc4,kf4⟩,⟨kz5,kc5,kf5⟩,⟨kz6,kc6,kf6⟩,⟨kz7,kc7,kf7⟩,_⟩ := hHeld.2
   all_goals
    have hB := hHeld.1
    clear hHeld hHeld0
    (try clear hHeld0); (try clear hHeld1); (try clear hHeld2); (try clear hHeld3); (try clear hHeld4); (try clear hHeld5); (try clear hHeld6); (try clear hHeld7); (try clear hHeld8); (try clear hHeld9); (try clear hHeld10); (try clear hHeld11); (try clear hHeld12); (try clear hHeld13); (try clear kz0 kc0 kf0); (try clear kz1 kc1 kf1); (try clear kz2 kc2 kf2); (try clear kz3 kc3 kf3); (try clear kz4 kc4 kf4); (try clear kz5 kc5 kf5); (try clear kz6 kc6 kf6); (try clear kz7 kc7 kf7)
    go_wp2_with fail
    go_ret
    exact ⟨rfl, hB⟩
set_option maxRecDepth 100000 in
theorem check_any (s : Sg) (hR : s.R.length ≤ 1000000) (hV : s.V.length ≤ 1000000) (v u : Value) (w : World) (h : ReadsR w v s.R) (hu : Reads .i64 w u s.V) :
  Calls Tryz.prog 17 #[sgV s.k v s.a s.r s.n s.d u s.e] w (Ret w (.int .i64 (if segB s then 0 else 210))) := by
 have MB := fun W (hb : Below w.heap.size w W) => mayBe_any s hR hV v u W (h.below hb) (hu.below hb)
 generalize segB s = sb at *
 generalize s.k = k at *
 generalize s.a = a at *
 generalize s.r = r at *
 generalize s.n = n at *
 generalize s.d = d at *
 generalize s.e = e at *
 replace MB := Lib.hid MB
 have hW := below_alloc w (sgO 27 k v a r n d u e)
 clear h hu
 cases sb
 ·go_enter Tryz.func17, Tryz.ntmps17
  go_wp2_with fail
  refine (MB.out _ hW).mono ?_
  rintro e w1 ⟨rfl, hb⟩
  go_wp2_with fail
  go_ret
  exact ⟨rfl, under hW hb⟩
 ·go_enter Tryz.func17, Tryz.ntmps17
  go_wp2_with fail
  refine (MB.out _ hW).mono ?_
  rintro e w1 ⟨rfl, hb⟩
  go_wp2_with fail
  go_ret
  exact ⟨rfl, under hW hb⟩
end Go.Proofs.YtcfidimnbamnkaaGreat.P11
