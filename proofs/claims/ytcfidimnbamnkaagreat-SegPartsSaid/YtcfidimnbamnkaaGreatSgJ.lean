/-
 Layer 11: what a segment's values at some places come to, as its kind tells it. Conditions: the segment may be; the places are its own.
-/
import Derived.Test.YtcfidimnbamnkaaGreatKitV
import Derived.Test.YtcfidimnbamnkaaGreatKitW
import Derived.Maps.RangeWalk
import Derived.Test.YtcfidimnbamnkaaGreatSgI
import Derived.Laws.EntriesVeiled
namespace Go.Proofs.YtcfidimnbamnkaaGreat.P11
open Go.RowKit Go.Shelf Go.Proofs.YtcfidimnbamnkaaGreat.P7

set_option maxRecDepth 100000 in
set_option maxHeartbeats 2000000 in
theorem flatPart_walk (k a r n d e i j m : Int) (hm : wrap64 (j - i) = m) (z0 z1 : Int) (MU : ∀ W, Calls Tryz.prog 38 #[.int .i64 a, .int .i64 m] W (Ret W (wideV z0 z1))) (v u : Value) (w : World) :
  Calls Tryz.prog 175 #[sgV k v a r n d u e, .int .i64 i, .int .i64 j] w (Ret w (.agg #[.int .i64 m, .int .i64 a, .int .i64 a, .int .i64 z0, .int .u64 z1])) := by
 replace MU := Lib.hid MU
 go_enter Tryz.func175, Tryz.ntmps175
 go_wp2_with fail
 refine region_keepsB (w0 := w) (L := [(w.heap.size, 0, .int .i64 k), (w.heap.size, 1, v), (w.heap.size, 2, .int .i64 a), (w.heap.size, 3, .int .i64 r), (w.heap.size, 4, .int .i64 n), (w.heap.size, 5, .int .i64 d), (w.heap.size, 6, u), (w.heap.size, 7, .int .i64 e)]) (M := [(w.heap.size + 1, 0, .int .i64 0), (w.heap.size + 1, 1, .int .i64 0), (w.heap.size + 1, 2, .int .i64 0), (w.heap.size + 1, 3, .int .i64 0), (w.heap.size + 1, 4, .int .u64 0)]) (by kernel_rfl) (by first | exact hHeld | (refine ⟨by go_grown, ?_⟩; simp [Cells, go_sem]; done)) (by first | exact hHeld | (refine ⟨by go_grown, ?_⟩; simp [Cells, go_sem]; done)) (fun hHeld0 hT0 => ?_)
 refine tv 0 11 rfl rfl ?_
 try go_frame
 refine tv 1 12 rfl rfl ?_
 try go_frame
 refine tv 2 13 rfl rfl ?_
 try go_frame
 refine tv 3 14 rfl rfl ?_
 try go_frame
 refine tk 4 15 rfl rfl ?_ ?_ ?_
 rotate_left
 ·intro wq hSw; obtain ⟨⟨_,_,_⟩,⟨_,_,_⟩,⟨_,_,_⟩,⟨_,_,_⟩,⟨_,_,_⟩,⟨_,_,_⟩,⟨_,_,_⟩,⟨_,_,_⟩,_⟩ := hSw.2; go_simp; (try with_reducible rfl)
 try go_frame
 refine tv 5 16 rfl rfl ?_
 try go_frame
 refine tv 6 17 rfl rfl ?_
 try go_frame
 refine tv 7 18 rfl rfl ?_
 try go_frame
 refine tk 8 19 rfl rfl ?_ ?_ ?_
 rotate_left
 ·intro wq hSw; obtain ⟨⟨_,_,_⟩,⟨_,_,_⟩,⟨_,_,_⟩,⟨_,_,_⟩,⟨_,_,_⟩,⟨_,_,_⟩,⟨_,_,_⟩,⟨_,_,_⟩,_⟩ := hSw.2; go_simp; (try with_reducible rfl)
 try go_frame
 refine tv 9 20 rfl rfl ?_
 try go_frame
 refine tv 10 21 rfl rfl ?_
 try go_frame
 refine tv 11 22 rfl rfl ?_
 try go_frame
 refine tk 12 23 rfl rfl ?_ ?_ ?_
 rotate_left
 ·intro wq hSw; obtain ⟨⟨_,_,_⟩,⟨_,_,_⟩,⟨_,_,_⟩,⟨_,_,_⟩,⟨_,_,_⟩,⟨_,_,_⟩,⟨_,_,_⟩,⟨_,_,_⟩,_⟩ := hSw.2; go_simp; (try with_reducible rfl)
 try go_frame
 refine tv 13 24 rfl rfl ?_
 try go_frame
 refine tw 14 rfl fun K hK => ?_
 go_simp
 ((with_reducible refine (MU.out _).mono ?_); rintro e w1 ⟨rfl, hb⟩)
 refine hK.out _ _ (hHeld0.next hb) (fun hHeld1 => ?_)
 replace hT0 := hT0.next hb
 clear hK K; try clear hb
 try go_frame
 refine tv 15 26 rfl rfl ?_
 try go_frame
 refine tw 16 rfl fun K hK => ?_
 obtain ⟨⟨t0z0,t0c0,t0f0⟩,⟨t0z1,t0c1,t0f1⟩,⟨t0z2,t0c2,t0f2⟩,⟨t0z3,t0c3,t0f3⟩,⟨t0z4,t0c4,t0f4⟩,_⟩ := hT0.2; (try simp at t0z0); (try simp at t0c0); (try simp at t0f0); (try simp at t0z1); (try simp at t0c1); (try simp at t0f1); (try simp at t0z2); (try simp at t0c2); (try simp at t0f2); (try simp at t0z3); (try simp at t0c3); (try simp at t0f3); (try simp at t0z4); (try simp at t0c4); (try simp at t0f4)
 go_simp
 refine hK.out _ _ (by first | exact hHeld1.alloc _ | (repeat (first | (with_reducible exact hHeld1) | (with_reducible exact (Keeps.undrewR hHeld1)) | (refine Keeps.set ?_ (by simp <;> omega) (by simp <;> omega) _) | (with_reducible refine Keeps.drew ?_)))) (fun hHeld2 => ?_)
 clear hK K; try clear hb
 try go_frame
 refine wpAnyH_done (by kernel_rfl) ?_ _
 have hHeld := hHeld2
 obtain ⟨⟨kz0,kc0,kf0⟩,⟨kz1,kc1,kf1⟩,⟨kz2,kc2,kf2⟩,⟨kz3,kc3,kf3⟩,⟨kz4,kc4,kf4⟩,⟨kz5,kc5,kf5⟩,⟨kz6,kc6,kf6⟩,⟨kz7,kc7,kf7⟩,_⟩ := hHeld.2
 all_goals
  have hB := hHeld.1
  obtain ⟨d0, d1, d2, d3, d4⟩ := set5 (u0 := .int .i64 m) (u1 := .int .i64 a) (u2 := .int .i64 a) (u3 := .int .i64 z0) (u4 := .int .u64 z1) t0c0 t0c1 t0c2 t0c3 t0c4
  clear hHeld hT0
  (try clear hHeld0); (try clear hHeld1); (try clear hHeld2); (try clear hT0); (try clear kz0 kc0 kf0); (try clear kz1 kc1 kf1); (try clear kz2 kc2 kf2); (try clear kz3 kc3 kf3); (try clear kz4 kc4 kf4); (try clear kz5 kc5 kf5); (try clear kz6 kc6 kf6); (try clear kz7 kc7 kf7); (try clear t0z0 t0c0 t0f0); (try clear t0z1 t0c1 t0f1)
  go_wp2_with fail
  refine bodyPost_ret (v := .agg #[.int .i64 m, .int .i64 a, .int .i64 a, .int .i64 z0, .int .u64 z1]) (by simp [results, Tryz.results175, go_sem, d0, d1, d2, d3, d4]) rfl ?_
  exact ⟨rfl, hB⟩
set_option maxRecDepth 100000 in
set_option maxHeartbeats 4000000 in
theorem linePart_walk (k a r n d e i j j1 m t1 t2 y1 y2 lo hi z0 z1 : Int) (hm2 : IntKind.i64.wrap (j - i) = m) (hj : wrap64 (j - 1) = j1) (P : List Rn) (v u : Value) (w : World)
  (A1 : ∀ W, Below w.heap.size w W → Calls Tryz.prog 73 #[v, .int .i64 i] W (Ret W (.tuple #[.int .i64 t1, .int .i64 0])))
  (A2 : ∀ W, Below w.heap.size w W → Calls Tryz.prog 73 #[v, .int .i64 j1] W (Ret W (.tuple #[.int .i64 t2, .int .i64 0])))
  (S1 : ∀ W, Below w.heap.size w W → Calls Tryz.prog 199 #[sgV k v a r n d u e, .int .i64 t1] W (Ret W (.int .i64 y1)))
  (S2 : ∀ W, Below w.heap.size w W → Calls Tryz.prog 199 #[sgV k v a r n d u e, .int .i64 t2] W (Ret W (.int .i64 y2)))
  (EN : ∀ W, Calls Tryz.prog 198 #[lnV a r n d, .int .i64 y1, .int .i64 y2] W (Ret W (.tuple #[spV lo hi, .int .i64 0])))
  (PC : ∀ W, Below w.heap.size w W → Calls Tryz.prog 201 #[v, .int .i64 i, .int .i64 j] W (GotR W P))
  (TG : ∀ p W, Below w.heap.size w W → ReadsR W p P → Calls Tryz.prog 202 #[p, .func (.func 203) #[sgV k v a r n d u e] #[]] W (Ret W (wideV z0 z1))) :
  Calls Tryz.prog 173 #[sgV k v a r n d u e, .int .i64 i, .int .i64 j] w (Ret w (.agg #[.int .i64 m, .int .i64 lo, .int .i64 hi, .int .i64 z0, .int .u64 z1])) := by
 replace A1 := Lib.hid A1
 replace A2 := Lib.hid A2
 replace S1 := Lib.hid S1
 replace S2 := Lib.hid S2
 replace EN := Lib.hid EN
 replace PC := Lib.hid PC
 replace TG := Lib.hid TG
 have hmf := makes_func
 have hK : Keeps w [(w.heap.size, 0, .int .i64 k), (w.heap.size, 1, v), (w.heap.size, 2, .int .i64 a), (w.heap.size, 3, .int .i64 r), (w.heap.size, 4, .int .i64 n), (w.heap.size, 5, .int .i64 d), (w.heap.size, 6, u), (w.heap.size, 7, .int .i64 e), (w.heap.size + 1, 0, .int .i64 0), (w.heap.size + 1, 1, .int .i64 0), (w.heap.size + 1, 2, .int .i64 0), (w.heap.size + 1, 3, .int .i64 0), (w.heap.size + 1, 4, .int .u64 0)] ((w.alloc (sgO 94 k v a r n d u e)).alloc (.cells #[.int .i64 0, .int .i64 0, .int .i64 0, .int .i64 0, .int .u64 0] 59)) := by
  refine ⟨by go_grown, ?_⟩
  simp [Cells, go_sem]
 go_enter Tryz.func173, Tryz.ntmps173
 go_wp2_with fail
 refine (A1.out _ hK.1).mono ?_
 rintro e w1 ⟨rfl, hb⟩
 have hHeld := hK.next hb
 clear hb hK
 obtain ⟨⟨kz0,kc0,kf0⟩,⟨kz1,kc1,kf1⟩,⟨kz2,kc2,kf2⟩,⟨kz3,kc3,kf3⟩,⟨kz4,kc4,kf4⟩,⟨kz5,kc5,kf5⟩,⟨kz6,kc6,kf6⟩,⟨kz7,kc7,kf7⟩,⟨kz8,kc8,kf8⟩,⟨kz9,kc9,kf9⟩,⟨kz10,kc10,kf10⟩,⟨kz11,kc11,kf11⟩,⟨kz12,kc12,kf12⟩,_⟩ := hHeld.2
 go_wp2_with fail
 refine (A2.out _ hHeld.1).mono ?_
 rintro e w2 ⟨rfl, hb⟩
 replace hHeld := hHeld.next hb
 clear hb
 (try clear hHeld0); (try clear hHeld1); (try clear hHeld2); (try clear hHeld3); (try clear hHeld4); (try clear hHeld5); (try clear hHeld6); (try clear hHeld7); (try clear hHeld8); (try clear hHeld9); (try clear hHeld10); (try clear hHeld11); (try clear hHeld12); (try clear hHeld13); (try clear hT0); (try clear kz0 kc0 kf0); (try clear kz1 kc1 kf1); (try clear kz2 kc2 kf2); (try clear kz3 kc3 kf3); (try clear kz4 kc4 kf4); (try clear kz5 kc5 kf5); (try clear kz6 kc6 kf6); (try clear kz7 kc7 kf7); (try clear kz8 kc8 kf8); (try clear kz9 kc9 kf9); (try clear kz10 kc10 kf10); (try clear kz11 kc11 kf11); (try clear kz12 kc12 kf12); (try clear kz13 kc13 kf13); (try clear t0z0 t0c0 t0f0); (try clear t0z1 t0c1 t0f1)
 have hK := hHeld
 clear hHeld
 go_upto_region 3 with (fail)
 go_cut [11] (fun s11 wx => ∃ g : Nat, s11 = .pointer (some ⟨g, 0, none⟩) ∧ w.heap.size + 2 ≤ g ∧ Keeps w [(g, 0, .int .i64 lo), (g, 1, .int .i64 hi), (w.heap.size, 0, .int .i64 k), (w.heap.size, 1, v), (w.heap.size, 2, .int .i64 a), (w.heap.size, 3, .int .i64 r), (w.heap.size, 4, .int .i64 n), (w.heap.size, 5, .int .i64 d), (w.heap.size, 6, u), (w.heap.size, 7, .int .i64 e), (w.heap.size + 1, 0, .int .i64 0), (w.heap.size + 1, 1, .int .i64 0), (w.heap.size + 1, 2, .int .i64 0), (w.heap.size + 1, 3, .int .i64 0), (w.heap.size + 1, 4, .int .u64 0)] wx)
 case first =>
  refine region_keeps (w0 := w) (L := [(w.heap.size, 0, .int .i64 k), (w.heap.size, 1, v), (w.heap.size, 2, .int .i64 a), (w.heap.size, 3, .int .i64 r), (w.heap.size, 4, .int .i64 n), (w.heap.size, 5, .int .i64 d), (w.heap.size, 6, u), (w.heap.size, 7, .int .i64 e), (w.heap.size + 1, 0, .int .i64 0), (w.heap.size + 1, 1, .int .i64 0), (w.heap.size + 1, 2, .int .i64 0), (w.heap.size + 1, 3, .int .i64 0), (w.heap.size + 1, 4, .int .u64 0)]) (by kernel_rfl) hK (fun hHeld0 => ?_)
  refine tv 0 33 rfl rfl ?_
  try go_frame
  refine tv 1 34 rfl rfl ?_
  try go_frame
  refine tk 2 35 rfl rfl ?_ ?_ ?_
  rotate_left
  ·intro wq hSw; obtain ⟨⟨_,_,_⟩,⟨_,_,_⟩,⟨_,_,_⟩,⟨_,_,_⟩,⟨_,_,_⟩,⟨_,_,_⟩,⟨_,_,_⟩,⟨_,_,_⟩,⟨_,_,_⟩,⟨_,_,_⟩,⟨_,_,_⟩,⟨_,_,_⟩,⟨_,_,_⟩,_⟩ := hSw.2; go_simp; (try with_reducible rfl)
  try go_frame
  refine tk 3 36 rfl rfl ?_ ?_ ?_
  rotate_left
  ·intro wq hSw; obtain ⟨⟨_,_,_⟩,⟨_,_,_⟩,⟨_,_,_⟩,⟨_,_,_⟩,⟨_,_,_⟩,⟨_,_,_⟩,⟨_,_,_⟩,⟨_,_,_⟩,⟨_,_,_⟩,⟨_,_,_⟩,⟨_,_,_⟩,⟨_,_,_⟩,⟨_,_,_⟩,_⟩ := hSw.2; go_simp; (try with_reducible rfl)
  try go_frame
  refine tv 4 37 rfl rfl ?_
  try go_frame
  refine tk 6 39 rfl rfl ?_ ?_ ?_
  rotate_left
  ·intro wq hSw; obtain ⟨⟨_,_,_⟩,⟨_,_,_⟩,⟨_,_,_⟩,⟨_,_,_⟩,⟨_,_,_⟩,⟨_,_,_⟩,⟨_,_,_⟩,⟨_,_,_⟩,⟨_,_,_⟩,⟨_,_,_⟩,⟨_,_,_⟩,⟨_,_,_⟩,⟨_,_,_⟩,_⟩ := hSw.2; go_simp; (try with_reducible rfl)
  try go_frame
  refine tv 7 40 rfl rfl ?_
  try go_frame
  refine ty [5, 13] ?_
  refine AllReadyH.cons rfl (fun K hK => ?_) ?_
  go_simp
  (first | ((with_reducible refine (S1.out _ (by exact kbel (by assumption))).mono ?_); rintro e wa ⟨rfl, hb⟩) | ((with_reducible refine (S2.out _ (by exact kbel (by assumption))).mono ?_); rintro e wb ⟨rfl, hb⟩) | ((with_reducible refine (EN.out _).mono ?_); rintro e wc ⟨rfl, hb⟩))
  refine hK.out _ _ (hHeld0.next hb) (fun hHeld1 => ?_)
  clear hK K; try clear hb
  try go_frame
  refine ty [8, 13] ?_
  refine AllReadyH.cons rfl (fun K hK => ?_) ?_
  go_simp
  (first | ((with_reducible refine (S1.out _ (by exact kbel (by assumption))).mono ?_); rintro e wa ⟨rfl, hb⟩) | ((with_reducible refine (S2.out _ (by exact kbel (by assumption))).mono ?_); rintro e wb ⟨rfl, hb⟩) | ((with_reducible refine (EN.out _).mono ?_); rintro e wc ⟨rfl, hb⟩))
  refine hK.out _ _ (hHeld1.next hb) (fun hHeld2 => ?_)
  clear hK K; try clear hb
  try go_frame
  refine ty [9, 13] ?_
  refine AllReadyH.cons rfl (fun K hK => ?_) ?_
  go_simp
  (first | ((with_reducible refine (S1.out _ (by exact kbel (by assumption))).mono ?_); rintro e wa ⟨rfl, hb⟩) | ((with_reducible refine (S2.out _ (by exact kbel (by assumption))).mono ?_); rintro e wb ⟨rfl, hb⟩) | ((with_reducible refine (EN.out _).mono ?_); rintro e wc ⟨rfl, hb⟩))
  refine hK.out _ _ (hHeld2.next hb) (fun hHeld3 => ?_)
  clear hK K; try clear hb
  try go_frame
  refine tv 10 32 rfl rfl ?_
  try go_frame
  refine tv 11 43 rfl rfl ?_
  try go_frame
  refine tv 12 44 rfl rfl ?_
  try go_frame
  refine tw 13 rfl fun K hK => ?_
  have lo11 := hHeld3.1.size
  obtain ⟨⟨a11_z0,_,_⟩,⟨a11_z1,_,_⟩,⟨a11_z2,_,_⟩,⟨a11_z3,_,_⟩,⟨a11_z4,_,_⟩,⟨a11_z5,_,_⟩,⟨a11_z6,_,_⟩,⟨a11_z7,_,_⟩,⟨a11_z8,_,_⟩,⟨a11_z9,_,_⟩,⟨a11_z10,_,_⟩,⟨a11_z11,_,_⟩,⟨a11_z12,_,_⟩,_⟩ := hHeld3.2
  (try simp at lo11); (try simp at a11_z0); (try simp at a11_z1); (try simp at a11_z2); (try simp at a11_z3); (try simp at a11_z4); (try simp at a11_z5); (try simp at a11_z6); (try simp at a11_z7); (try simp at a11_z8); (try simp at a11_z9); (try simp at a11_z10); (try simp at a11_z11); (try simp at a11_z12)
  go_simp
  refine hK.out _ _ (by first | exact hHeld3.alloc _ | exact (hHeld3.alloc _).drew) (fun hHeld4 => ?_)
  first | have hS11 := newK2 hHeld4 | have hS11 := newK2d hHeld4
  clear hK K; try clear hb
  try go_frame
  generalize hGWA1 : World.alloc wc (.cells #[.int .i64 0, .int .i64 0] 240) = WA1 at *
  clear hGWA1
  refine tw 14 rfl fun K hK => ?_
  obtain ⟨⟨s11z0, s11c0, s11f0⟩, ⟨s11z1, s11c1, s11f1⟩, _⟩ := hS11.2
  go_simp
  refine hK.out _ _ (by (repeat (first | (with_reducible exact hHeld4) | (refine Keeps.set ?_ (by simp <;> omega) (by simp <;> omega) _)))) (fun hHeld5 => ?_)
  replace hS11 := hHeld5.add2 s11z0 s11c0 s11f0 s11c1 s11f1
  clear s11z0 s11c0 s11f0 s11z1 s11c1 s11f1
  clear hK K; try clear hb
  try go_frame
  generalize hGWA2 : World.setCell (World.setCell WA1 ⟨wc.heap.size, 0, none⟩ (.int .i64 lo)) ⟨wc.heap.size, 1, none⟩ (.int .i64 hi) = WA2 at *
  clear hGWA2
  refine tv 15 12 rfl rfl ?_
  try go_frame
  refine wpAnyH_done (by kernel_rfl) ?_ _
  have hHeld := hHeld5
  rotate_left 1
  refine AllReadyH.cons rfl (fun K hK => ?_) ?_
  have lo11 := hHeld2.1.size
  obtain ⟨⟨a11_z0,_,_⟩,⟨a11_z1,_,_⟩,⟨a11_z2,_,_⟩,⟨a11_z3,_,_⟩,⟨a11_z4,_,_⟩,⟨a11_z5,_,_⟩,⟨a11_z6,_,_⟩,⟨a11_z7,_,_⟩,⟨a11_z8,_,_⟩,⟨a11_z9,_,_⟩,⟨a11_z10,_,_⟩,⟨a11_z11,_,_⟩,⟨a11_z12,_,_⟩,_⟩ := hHeld2.2
  (try simp at lo11); (try simp at a11_z0); (try simp at a11_z1); (try simp at a11_z2); (try simp at a11_z3); (try simp at a11_z4); (try simp at a11_z5); (try simp at a11_z6); (try simp at a11_z7); (try simp at a11_z8); (try simp at a11_z9); (try simp at a11_z10); (try simp at a11_z11); (try simp at a11_z12)
  go_simp
  refine hK.out _ _ (by first | exact hHeld2.alloc _ | exact (hHeld2.alloc _).drew) (fun hHeld6 => ?_)
  first | have hS11 := newK2 hHeld6 | have hS11 := newK2d hHeld6
  clear hK K; try clear hb
  try go_frame
  generalize hGWA3 : World.alloc wb (.cells #[.int .i64 0, .int .i64 0] 240) = WA3 at *
  clear hGWA3
  refine tw 9 rfl fun K hK => ?_
  go_simp
  (first | ((with_reducible refine (S1.out _ (by exact kbel (by assumption))).mono ?_); rintro e wa ⟨rfl, hb⟩) | ((with_reducible refine (S2.out _ (by exact kbel (by assumption))).mono ?_); rintro e wb ⟨rfl, hb⟩) | ((with_reducible refine (EN.out _).mono ?_); rintro e wc ⟨rfl, hb⟩))
  refine hK.out _ _ (hHeld6.next hb) (fun hHeld7 => ?_)
  replace hS11 := hS11.next hb
  clear hK K; try clear hb
  try go_frame
  refine tv 10 32 rfl rfl ?_
  try go_frame
  refine tv 11 43 rfl rfl ?_
  try go_frame
  refine tv 12 44 rfl rfl ?_
  try go_frame
  refine tw 14 rfl fun K hK => ?_
  obtain ⟨⟨s11z0, s11c0, s11f0⟩, ⟨s11z1, s11c1, s11f1⟩, _⟩ := hS11.2
  go_simp
  refine hK.out _ _ (by (repeat (first | (with_reducible exact hHeld7) | (refine Keeps.set ?_ (by simp <;> omega) (by simp <;> omega) _)))) (fun hHeld8 => ?_)
  replace hS11 := hHeld8.add2 s11z0 s11c0 s11f0 s11c1 s11f1
  clear s11z0 s11c0 s11f0 s11z1 s11c1 s11f1
  clear hK K; try clear hb
  try go_frame
  generalize hGWA4 : World.setCell (World.setCell wc ⟨wb.heap.size, 0, none⟩ (.int .i64 lo)) ⟨wb.heap.size, 1, none⟩ (.int .i64 hi) = WA4 at *
  clear hGWA4
  refine tv 15 12 rfl rfl ?_
  try go_frame
  refine wpAnyH_done (by kernel_rfl) ?_ _
  have hHeld := hHeld8
  rotate_left 1
  exact AllReadyH.nil
  refine AllReadyH.cons rfl (fun K hK => ?_) ?_
  have lo11 := hHeld1.1.size
  obtain ⟨⟨a11_z0,_,_⟩,⟨a11_z1,_,_⟩,⟨a11_z2,_,_⟩,⟨a11_z3,_,_⟩,⟨a11_z4,_,_⟩,⟨a11_z5,_,_⟩,⟨a11_z6,_,_⟩,⟨a11_z7,_,_⟩,⟨a11_z8,_,_⟩,⟨a11_z9,_,_⟩,⟨a11_z10,_,_⟩,⟨a11_z11,_,_⟩,⟨a11_z12,_,_⟩,_⟩ := hHeld1.2
  (try simp at lo11); (try simp at a11_z0); (try simp at a11_z1); (try simp at a11_z2); (try simp at a11_z3); (try simp at a11_z4); (try simp at a11_z5); (try simp at a11_z6); (try simp at a11_z7); (try simp at a11_z8); (try simp at a11_z9); (try simp at a11_z10); (try simp at a11_z11); (try simp at a11_z12)
  go_simp
  refine hK.out _ _ (by first | exact hHeld1.alloc _ | exact (hHeld1.alloc _).drew) (fun hHeld9 => ?_)
  first | have hS11 := newK2 hHeld9 | have hS11 := newK2d hHeld9
  clear hK K; try clear hb
  try go_frame
  generalize hGWA5 : World.alloc wa (.cells #[.int .i64 0, .int .i64 0] 240) = WA5 at *
  clear hGWA5
  refine tw 8 rfl fun K hK => ?_
  go_simp
  (first | ((with_reducible refine (S1.out _ (by exact kbel (by assumption))).mono ?_); rintro e wa ⟨rfl, hb⟩) | ((with_reducible refine (S2.out _ (by exact kbel (by assumption))).mono ?_); rintro e wb ⟨rfl, hb⟩) | ((with_reducible refine (EN.out _).mono ?_); rintro e wc ⟨rfl, hb⟩))
  refine hK.out _ _ (hHeld9.next hb) (fun hHeld10 => ?_)
  replace hS11 := hS11.next hb
  clear hK K; try clear hb
  try go_frame
  refine tw 9 rfl fun K hK => ?_
  go_simp
  (first | ((with_reducible refine (S1.out _ (by exact kbel (by assumption))).mono ?_); rintro e wa ⟨rfl, hb⟩) | ((with_reducible refine (S2.out _ (by exact kbel (by assumption))).mono ?_); rintro e wb ⟨rfl, hb⟩) | ((with_reducible refine (EN.out _).mono ?_); rintro e wc ⟨rfl, hb⟩))
  refine hK.out _ _ (hHeld10.next hb) (fun hHeld11 => ?_)
  replace hS11 := hS11.next hb
  clear hK K; try clear hb
  try go_frame
  refine tv 10 32 rfl rfl ?_
  try go_frame
  refine tv 11 43 rfl rfl ?_
  try go_frame
  refine tv 12 44 rfl rfl ?_
  try go_frame
  refine tw 14 rfl fun K hK => ?_
  obtain ⟨⟨s11z0, s11c0, s11f0⟩, ⟨s11z1, s11c1, s11f1⟩, _⟩ := hS11.2
  go_simp
  refine hK.out _ _ (by (repeat (first | (with_reducible exact hHeld11) | (refine Keeps.set ?_ (by simp <;> omega) (by simp <;> omega) _)))) (fun hHeld12 => ?_)
  replace hS11 := hHeld12.add2 s11z0 s11c0 s11f0 s11c1 s11f1
  clear s11z0 s11c0 s11f0 s11z1 s11c1 s11f1
  clear hK K; try clear hb
  try go_frame
  generalize hGWA6 : World.setCell (World.setCell wc ⟨wa.heap.size, 0, none⟩ (.int .i64 lo)) ⟨wa.heap.size, 1, none⟩ (.int .i64 hi) = WA6 at *
  clear hGWA6
  refine tv 15 12 rfl rfl ?_
  try go_frame
  refine wpAnyH_done (by kernel_rfl) ?_ _
  have hHeld := hHeld12
  rotate_left 1
  exact AllReadyH.nil
  refine AllReadyH.cons rfl (fun K hK => ?_) ?_
  have lo11 := hHeld0.1.size
  obtain ⟨⟨a11_z0,_,_⟩,⟨a11_z1,_,_⟩,⟨a11_z2,_,_⟩,⟨a11_z3,_,_⟩,⟨a11_z4,_,_⟩,⟨a11_z5,_,_⟩,⟨a11_z6,_,_⟩,⟨a11_z7,_,_⟩,⟨a11_z8,_,_⟩,⟨a11_z9,_,_⟩,⟨a11_z10,_,_⟩,⟨a11_z11,_,_⟩,⟨a11_z12,_,_⟩,_⟩ := hHeld0.2
  (try simp at lo11); (try simp at a11_z0); (try simp at a11_z1); (try simp at a11_z2); (try simp at a11_z3); (try simp at a11_z4); (try simp at a11_z5); (try simp at a11_z6); (try simp at a11_z7); (try simp at a11_z8); (try simp at a11_z9); (try simp at a11_z10); (try simp at a11_z11); (try simp at a11_z12)
  go_simp
  refine hK.out _ _ (by first | exact hHeld0.alloc _ | exact (hHeld0.alloc _).drew) (fun hHeld13 => ?_)
  first | have hS11 := newK2 hHeld13 | have hS11 := newK2d hHeld13
  clear hK K; try clear hb
  try go_frame
  generalize hGWA7 : World.alloc w2 (.cells #[.int .i64 0, .int .i64 0] 240) = WA7 at *
  clear hGWA7
  refine tw 5 rfl fun K hK => ?_
  go_simp
  (first | ((with_reducible refine (S1.out _ (by exact kbel (by assumption))).mono ?_); rintro e wa ⟨rfl, hb⟩) | ((with_reducible refine (S2.out _ (by exact kbel (by assumption))).mono ?_); rintro e wb ⟨rfl, hb⟩) | ((with_reducible refine (EN.out _).mono ?_); rintro e wc ⟨rfl, hb⟩))
  refine hK.out _ _ (hHeld13.next hb) (fun hHeld14 => ?_)
  replace hS11 := hS11.next hb
  clear hK K; try clear hb
  try go_frame
  refine tw 8 rfl fun K hK => ?_
  go_simp
  (first | ((with_reducible refine (S1.out _ (by exact kbel (by assumption))).mono ?_); rintro e wa ⟨rfl, hb⟩) | ((with_reducible refine (S2.out _ (by exact kbel (by assumption))).mono ?_); rintro e wb ⟨rfl, hb⟩) | ((with_reducible refine (EN.out _).mono ?_); rintro e wc ⟨rfl, hb⟩))
  refine hK.out _ _ (hHeld14.next hb) (fun hHeld15 => ?_)
  replace hS11 := hS11.next hb
  clear hK K; try clear hb
  try go_frame
  refine tw 9 rfl fun K hK => ?_
  go_simp
  (first | ((with_reducible refine (S1.out _ (by exact kbel (by assumption))).mono ?_); rintro e wa ⟨rfl, hb⟩) | ((with_reducible refine (S2.out _ (by exact kbel (by assumption))).mono ?_); rintro e wb ⟨rfl, hb⟩) | ((with_reducible refine (EN.out _).mono ?_); rintro e wc ⟨rfl, hb⟩))
  refine hK.out _ _ (hHeld15.next hb) (fun hHeld16 => ?_)
  replace hS11 := hS11.next hb
  clear hK K; try clear hb
  try go_frame
  refine tv 10 32 rfl rfl ?_
  try go_frame
  refine tv 11 43 rfl rfl ?_
  try go_frame
  refine tv 12 44 rfl rfl ?_
  try go_frame
  refine tw 14 rfl fun K hK => ?_
  obtain ⟨⟨s11z0, s11c0, s11f0⟩, ⟨s11z1, s11c1, s11f1⟩, _⟩ := hS11.2
  go_simp
  refine hK.out _ _ (by (repeat (first | (with_reducible exact hHeld16) | (refine Keeps.set ?_ (by simp <;> omega) (by simp <;> omega) _)))) (fun hHeld17 => ?_)
  replace hS11 := hHeld17.add2 s11z0 s11c0 s11f0 s11c1 s11f1
  clear s11z0 s11c0 s11f0 s11z1 s11c1 s11f1
  clear hK K; try clear hb
  try go_frame
  generalize hGWA8 : World.setCell (World.setCell wc ⟨w2.heap.size, 0, none⟩ (.int .i64 lo)) ⟨w2.heap.size, 1, none⟩ (.int .i64 hi) = WA8 at *
  clear hGWA8
  refine tv 15 12 rfl rfl ?_
  try go_frame
  refine wpAnyH_done (by kernel_rfl) ?_ _
  have hHeld := hHeld17
  rotate_left 1
  exact AllReadyH.nil
  all_goals
   have hP := hS11
   clear hHeld hS11
   (try clear hHeld0); (try clear hHeld1); (try clear hHeld2); (try clear hHeld3); (try clear hHeld4); (try clear hHeld5); (try clear hHeld6); (try clear hHeld7); (try clear hHeld8); (try clear hHeld9); (try clear hHeld10); (try clear hHeld11); (try clear hHeld12); (try clear hHeld13); (try clear hT0); (try clear kz0 kc0 kf0); (try clear kz1 kc1 kf1); (try clear kz2 kc2 kf2); (try clear kz3 kc3 kf3); (try clear kz4 kc4 kf4); (try clear kz5 kc5 kf5); (try clear kz6 kc6 kf6); (try clear kz7 kc7 kf7); (try clear kz8 kc8 kf8); (try clear kz9 kc9 kf9); (try clear kz10 kc10 kf10); (try clear kz11 kc11 kf11); (try clear kz12 kc12 kf12); (try clear kz13 kc13 kf13); (try clear t0z0 t0c0 t0f0); (try clear t0z1 t0c1 t0f1)
   go_wp2_with fail
   go_meet
   case rel => exact ⟨_, rfl, a11_z8, hP⟩
 case rest =>
  clear A1 A2 S1 S2 EN hK
  obtain ⟨g, rfl, hg, hH⟩ := hcut
  obtain ⟨⟨kz0,kc0,kf0⟩,⟨kz1,kc1,kf1⟩,⟨kz2,kc2,kf2⟩,⟨kz3,kc3,kf3⟩,⟨kz4,kc4,kf4⟩,⟨kz5,kc5,kf5⟩,⟨kz6,kc6,kf6⟩,⟨kz7,kc7,kf7⟩,⟨kz8,kc8,kf8⟩,⟨kz9,kc9,kf9⟩,⟨kz10,kc10,kf10⟩,⟨kz11,kc11,kf11⟩,⟨kz12,kc12,kf12⟩,⟨kz13,kc13,kf13⟩,⟨kz14,kc14,kf14⟩,_⟩ := hH.2
  go_wp2_with fail
  refine (PC.out _ hH.1).mono ?_
  rintro e w5 ⟨v5, rfl, hb, ho⟩
  have hR5 := Lib.hid (readsR_own ho)
  replace hH := hH.next hb
  clear hb ho
  (try clear hHeld0); (try clear hHeld1); (try clear hHeld2); (try clear hHeld3); (try clear hHeld4); (try clear hHeld5); (try clear hHeld6); (try clear hHeld7); (try clear hHeld8); (try clear hHeld9); (try clear hHeld10); (try clear hHeld11); (try clear hHeld12); (try clear hHeld13); (try clear hT0); (try clear kz0 kc0 kf0); (try clear kz1 kc1 kf1); (try clear kz2 kc2 kf2); (try clear kz3 kc3 kf3); (try clear kz4 kc4 kf4); (try clear kz5 kc5 kf5); (try clear kz6 kc6 kf6); (try clear kz7 kc7 kf7); (try clear kz8 kc8 kf8); (try clear kz9 kc9 kf9); (try clear kz10 kc10 kf10); (try clear kz11 kc11 kf11); (try clear kz12 kc12 kf12); (try clear kz13 kc13 kf13); (try clear t0z0 t0c0 t0f0); (try clear t0z1 t0c1 t0f1)
  (try clear kz14 kc14 kf14)
  have hL : Keeps w [(g, 0, .int .i64 lo), (g, 1, .int .i64 hi), (w.heap.size, 0, .int .i64 k), (w.heap.size, 1, v), (w.heap.size, 2, .int .i64 a), (w.heap.size, 3, .int .i64 r), (w.heap.size, 4, .int .i64 n), (w.heap.size, 5, .int .i64 d), (w.heap.size, 6, u), (w.heap.size, 7, .int .i64 e)] w5 := hH.sub (by simp)
  have hS : Keeps w [(w.heap.size + 1, 0, .int .i64 0), (w.heap.size + 1, 1, .int .i64 0), (w.heap.size + 1, 2, .int .i64 0), (w.heap.size + 1, 3, .int .i64 0), (w.heap.size + 1, 4, .int .u64 0)] w5 := hH.sub (by simp)
  go_upto_region 5 with (fail)
  refine region_keepsB (w0 := w) (L := [(g, 0, .int .i64 lo), (g, 1, .int .i64 hi), (w.heap.size, 0, .int .i64 k), (w.heap.size, 1, v), (w.heap.size, 2, .int .i64 a), (w.heap.size, 3, .int .i64 r), (w.heap.size, 4, .int .i64 n), (w.heap.size, 5, .int .i64 d), (w.heap.size, 6, u), (w.heap.size, 7, .int .i64 e)]) (M := [(w.heap.size + 1, 0, .int .i64 0), (w.heap.size + 1, 1, .int .i64 0), (w.heap.size + 1, 2, .int .i64 0), (w.heap.size + 1, 3, .int .i64 0), (w.heap.size + 1, 4, .int .u64 0)]) (by kernel_rfl) hL hS (fun hHeld0 hT0 => ?_)
  refine tv 0 54 rfl rfl ?_
  try go_frame
  refine tv 1 55 rfl rfl ?_
  try go_frame
  refine tv 2 56 rfl rfl ?_
  try go_frame
  refine tv 3 57 rfl rfl ?_
  try go_frame
  refine tk 4 58 rfl rfl ?_ ?_ ?_
  rotate_left
  ·intro wq hSw; obtain ⟨⟨_,_,_⟩,⟨_,_,_⟩,⟨_,_,_⟩,⟨_,_,_⟩,⟨_,_,_⟩,⟨_,_,_⟩,⟨_,_,_⟩,⟨_,_,_⟩,⟨_,_,_⟩,⟨_,_,_⟩,_⟩ := hSw.2; go_simp; (try with_reducible rfl)
  try go_frame
  refine tv 5 59 rfl rfl ?_
  try go_frame
  refine tk 6 60 rfl rfl ?_ ?_ ?_
  rotate_left
  ·intro wq hSw; obtain ⟨⟨_,_,_⟩,⟨_,_,_⟩,⟨_,_,_⟩,⟨_,_,_⟩,⟨_,_,_⟩,⟨_,_,_⟩,⟨_,_,_⟩,⟨_,_,_⟩,⟨_,_,_⟩,⟨_,_,_⟩,_⟩ := hSw.2; go_simp; (try with_reducible rfl)
  try go_frame
  refine tv 7 61 rfl rfl ?_
  try go_frame
  refine tk 8 62 rfl rfl ?_ ?_ ?_
  rotate_left
  ·intro wq hSw; obtain ⟨⟨_,_,_⟩,⟨_,_,_⟩,⟨_,_,_⟩,⟨_,_,_⟩,⟨_,_,_⟩,⟨_,_,_⟩,⟨_,_,_⟩,⟨_,_,_⟩,⟨_,_,_⟩,⟨_,_,_⟩,_⟩ := hSw.2; go_simp; (try with_reducible rfl)
  try go_frame
  refine tw 9 rfl fun K hK => ?_
  go_simp
  refine hK.out _ _ hHeld0 (fun hHeld1 => ?_)
  clear hK K; try clear hb
  try go_frame
  refine tw 10 rfl fun K hK => ?_
  go_simp
  ((with_reducible refine (TG.out _ _ (by exact kbel (by assumption)) (hR5.out.below (Below.refl _ _).drew)).mono ?_); rintro e w6 ⟨rfl, hb⟩)
  refine hK.out _ _ (hHeld1.next hb) (fun hHeld2 => ?_)
  replace hT0 := hT0.next hb
  clear hK K; try clear hb
  try go_frame
  refine tv 11 65 rfl rfl ?_
  try go_frame
  refine tw 12 rfl fun K hK => ?_
  obtain ⟨⟨t0z0,t0c0,t0f0⟩,⟨t0z1,t0c1,t0f1⟩,⟨t0z2,t0c2,t0f2⟩,⟨t0z3,t0c3,t0f3⟩,⟨t0z4,t0c4,t0f4⟩,_⟩ := hT0.2; (try simp at t0z0); (try simp at t0c0); (try simp at t0f0); (try simp at t0z1); (try simp at t0c1); (try simp at t0f1); (try simp at t0z2); (try simp at t0c2); (try simp at t0f2); (try simp at t0z3); (try simp at t0c3); (try simp at t0f3); (try simp at t0z4); (try simp at t0c4); (try simp at t0f4)
  go_simp
  refine hK.out _ _ (by first | exact hHeld2.alloc _ | (repeat (first | (with_reducible exact hHeld2) | (with_reducible exact (Keeps.undrewR hHeld2)) | (refine Keeps.set ?_ (by simp <;> omega) (by simp <;> omega) _) | (with_reducible refine Keeps.drew ?_)))) (fun hHeld3 => ?_)
  clear hK K; try clear hb
  try go_frame
  refine wpAnyH_done (by kernel_rfl) ?_ _
  have hHeld := hHeld3
  obtain ⟨⟨kz0,kc0,kf0⟩,⟨kz1,kc1,kf1⟩,⟨kz2,kc2,kf2⟩,⟨kz3,kc3,kf3⟩,⟨kz4,kc4,kf4⟩,⟨kz5,kc5,kf5⟩,⟨kz6,kc6,kf6⟩,⟨kz7,kc7,kf7⟩,⟨kz8,kc8,kf8⟩,⟨kz9,kc9,kf9⟩,_⟩ := hHeld.2
  all_goals
   have hB := hHeld.1
   obtain ⟨d0, d1, d2, d3, d4⟩ := set5 (u0 := .int .i64 m) (u1 := .int .i64 lo) (u2 := .int .i64 hi) (u3 := .int .i64 z0) (u4 := .int .u64 z1) t0c0 t0c1 t0c2 t0c3 t0c4
   clear hHeld hT0
   (try clear hHeld0); (try clear hHeld1); (try clear hHeld2); (try clear hHeld3); (try clear hHeld4); (try clear hHeld5); (try clear hHeld6); (try clear hHeld7); (try clear hHeld8); (try clear hHeld9); (try clear hHeld10); (try clear hHeld11); (try clear hHeld12); (try clear hHeld13); (try clear hT0); (try clear kz0 kc0 kf0); (try clear kz1 kc1 kf1); (try clear kz2 kc2 kf2); (try clear kz3 kc3 kf3); (try clear kz4 kc4 kf4); (try clear kz5 kc5 kf5); (try clear kz6 kc6 kf6); (try clear kz7 kc7 kf7); (try clear kz8 kc8 kf8); (try clear kz9 kc9 kf9); (try clear kz10 kc10 kf10); (try clear kz11 kc11 kf11); (try clear kz12 kc12 kf12); (try clear kz13 kc13 kf13); (try clear t0z0 t0c0 t0f0); (try clear t0z1 t0c1 t0f1)
   go_wp2_with fail
   refine bodyPost_ret (v := .agg #[.int .i64 m, .int .i64 lo, .int .i64 hi, .int .i64 z0, .int .u64 z1]) (by simp [results, Tryz.results173, go_sem, d0, d1, d2, d3, d4]) rfl ?_
   exact ⟨rfl, hB⟩
end Go.Proofs.YtcfidimnbamnkaaGreat.P11
