/-
 Layer 11: what each kind says. Conditions: those written at each fact.
-/
import Derived.Test.YtcfidimnbamnkaaGreatKitW
import Derived.Maps.RangeWalk
import Derived.Test.YtcfidimnbamnkaaGreatSgB
import Derived.Laws.EntriesVeiled
namespace Go.Proofs.YtcfidimnbamnkaaGreat.P11
open Go.RowKit Go.Shelf Go.Proofs.YtcfidimnbamnkaaGreat.P7

abbrev fnV (f : Nat) : Value := .func (.func f) #[] #[]
abbrev kindsV : Value := .agg #[.nilFunc, .nilFunc, .nilFunc, fnV 171, fnV 174, fnV 175, fnV 171, fnV 172, fnV 173, fnV 171, fnV 172, fnV 173, fnV 176, fnV 177, fnV 178]
set_option maxRecDepth 100000 in
set_option maxHeartbeats 2000000 in
theorem kinds_any (w : World) : Calls Tryz.prog 128 #[] w (Ret w kindsV) := by
 go_enter Tryz.func128, Tryz.ntmps128
 go_wp2_with fail
 go_returns
 exact ⟨rfl, by go_grown⟩
abbrev lineK : Value := .agg #[fnV 171, fnV 172, fnV 173]
abbrev flatK : Value := .agg #[fnV 171, fnV 174, fnV 175]
abbrev rawK : Value := .agg #[fnV 176, fnV 177, fnV 178]
theorem run_index_agg {P : Program} (w : World) (t e : TypeId) (n z : Nat) (cs : Array Value) (i : Nat) (h : P.underlying t = some (.array n e)) (ha : (isAgg e).run P w = .ok true w) (hs : (sizeOf e).run P w = .ok z w)
  (hi : i < n) : (Instr.index t (.agg cs) (.int .i64 i)).run P w = .ok (.agg (cs.extract (i * z) (i * z + z))) w := by
 simp [Instr.index, run_underlying h, asIntOf, hi, go_sem, part, ha, hs]
theorem index1 (W : World) : (Instr.index 185 kindsV (.int .i64 1)).run Tryz.prog W = .ok flatK W :=
 run_index_agg W _ _ 5 3 _ 1 Tryz.underlying185 (Tryz.isAgg116 W) (Tryz.sizeOf116 W) (by decide)
theorem index2 (W : World) : (Instr.index 185 kindsV (.int .i64 2)).run Tryz.prog W = .ok lineK W :=
 run_index_agg W _ _ 5 3 _ 2 Tryz.underlying185 (Tryz.isAgg116 W) (Tryz.sizeOf116 W) (by decide)
theorem index3 (W : World) : (Instr.index 185 kindsV (.int .i64 3)).run Tryz.prog W = .ok lineK W :=
 run_index_agg W _ _ 5 3 _ 3 Tryz.underlying185 (Tryz.isAgg116 W) (Tryz.sizeOf116 W) (by decide)
theorem index4 (W : World) : (Instr.index 185 kindsV (.int .i64 4)).run Tryz.prog W = .ok rawK W :=
 run_index_agg W _ _ 5 3 _ 4 Tryz.underlying185 (Tryz.isAgg116 W) (Tryz.sizeOf116 W) (by decide)
attribute [local go_sem] index1 index2 index3 index4
set_option maxRecDepth 100000 in
set_option maxHeartbeats 2000000 in
theorem says_flat (v : Value) (a r n d : Int) (u : Value) (e : Int) (w : World) : Calls Tryz.prog 74 #[sgV 1 v a r n d u e] w (Ret w flatK) := by
 have KI := Lib.hid (fun W => kinds_any W)
 go_enter Tryz.func74, Tryz.ntmps74
 go_wp2_with fail
 refine region_keepsB (w0 := w) (L := [(w.heap.size, 0, .int .i64 1), (w.heap.size, 1, v), (w.heap.size, 2, .int .i64 a), (w.heap.size, 3, .int .i64 r), (w.heap.size, 4, .int .i64 n), (w.heap.size, 5, .int .i64 d), (w.heap.size, 6, u), (w.heap.size, 7, .int .i64 e)]) (M := [(w.heap.size + 1, 0, .nilFunc), (w.heap.size + 1, 1, .nilFunc), (w.heap.size + 1, 2, .nilFunc)]) (by kernel_rfl) (by first | exact hHeld | (refine ⟨by go_grown, ?_⟩; simp [Cells, go_sem]; done)) (by first | exact hHeld | (refine ⟨by go_grown, ?_⟩; simp [Cells, go_sem]; done)) (fun hHeld0 hT0 => ?_)
 refine tv 1 4 rfl rfl ?_
 try go_frame
 refine tv 2 5 rfl rfl ?_
 try go_frame
 refine tk 3 6 rfl rfl ?_ ?_ ?_
 rotate_left
 ·intro wq hSw; obtain ⟨⟨_,_,_⟩,⟨_,_,_⟩,⟨_,_,_⟩,⟨_,_,_⟩,⟨_,_,_⟩,⟨_,_,_⟩,⟨_,_,_⟩,⟨_,_,_⟩,_⟩ := hSw.2; go_simp; (try with_reducible rfl)
 try go_frame
 refine ty [0] ?_
 refine AllReadyH.cons rfl (fun K hK => ?_) AllReadyH.nil
 go_simp
 ((with_reducible refine (KI.out _).mono ?_); rintro e w1 ⟨rfl, hb⟩)
 refine hK.out _ _ (hHeld0.next hb) (fun hHeld1 => ?_)
 replace hT0 := hT0.next hb
 clear hK K; try clear hb
 try go_frame
 refine tv 4 7 rfl rfl ?_
 try go_frame
 refine ty [5] ?_
 refine AllReadyH.cons rfl (fun K hK => ?_) AllReadyH.nil
 obtain ⟨⟨t0z0,t0c0,t0f0⟩,⟨t0z1,t0c1,t0f1⟩,⟨t0z2,t0c2,t0f2⟩,_⟩ := hT0.2; (try simp at t0z0); (try simp at t0c0); (try simp at t0f0); (try simp at t0z1); (try simp at t0c1); (try simp at t0f1); (try simp at t0z2); (try simp at t0c2); (try simp at t0f2)
 go_simp
 refine hK.out _ _ (by first | exact hHeld1.alloc _ | (repeat (first | (with_reducible exact hHeld1) | (with_reducible exact (Keeps.undrewR hHeld1)) | (refine Keeps.set ?_ (by simp <;> omega) (by simp <;> omega) _) | (with_reducible refine Keeps.drew ?_)))) (fun hHeld2 => ?_)
 clear hK K; try clear hb
 try go_frame
 refine wpAnyH_done (by kernel_rfl) ?_ _
 have hHeld := hHeld2
 obtain ⟨⟨kz0,kc0,kf0⟩,⟨kz1,kc1,kf1⟩,⟨kz2,kc2,kf2⟩,⟨kz3,kc3,kf3⟩,⟨kz4,kc4,kf4⟩,⟨kz5,kc5,kf5⟩,⟨kz6,kc6,kf6⟩,⟨kz7,kc7,kf7⟩,_⟩ := hHeld.2
 all_goals
  have hB := hHeld.1
  obtain ⟨d0, d1, d2⟩ := set3 (W := w1) (B := w.heap.size + 1) (u0 := fnV 171) (u1 := fnV 174) (u2 := fnV 175) t0c0 t0c1 t0c2
  clear hHeld hHeld0 hHeld1 hHeld2 hT0 t0c0 t0c1 t0c2 t0f0 t0f1 t0f2 t0z0 t0z1 t0z2
  (try clear hHeld0); (try clear hHeld1); (try clear hHeld2); (try clear hT0); (try clear kz0 kc0 kf0); (try clear kz1 kc1 kf1); (try clear kz2 kc2 kf2); (try clear kz3 kc3 kf3); (try clear kz4 kc4 kf4); (try clear kz5 kc5 kf5); (try clear kz6 kc6 kf6); (try clear kz7 kc7 kf7); (try clear t0z0 t0c0 t0f0); (try clear t0z1 t0c1 t0f1)
  go_wp2_with fail
  refine bodyPost_ret (v := flatK) (by simp [results, Tryz.results74, go_sem, d0, d1, d2]) rfl ?_
  exact ⟨rfl, hB⟩
set_option maxRecDepth 100000 in
set_option maxHeartbeats 2000000 in
theorem says_tilt (v : Value) (a r n d : Int) (u : Value) (e : Int) (w : World) : Calls Tryz.prog 74 #[sgV 2 v a r n d u e] w (Ret w lineK) := by
 have KI := Lib.hid (fun W => kinds_any W)
 go_enter Tryz.func74, Tryz.ntmps74
 go_wp2_with fail
 refine region_keepsB (w0 := w) (L := [(w.heap.size, 0, .int .i64 2), (w.heap.size, 1, v), (w.heap.size, 2, .int .i64 a), (w.heap.size, 3, .int .i64 r), (w.heap.size, 4, .int .i64 n), (w.heap.size, 5, .int .i64 d), (w.heap.size, 6, u), (w.heap.size, 7, .int .i64 e)]) (M := [(w.heap.size + 1, 0, .nilFunc), (w.heap.size + 1, 1, .nilFunc), (w.heap.size + 1, 2, .nilFunc)]) (by kernel_rfl) (by first | exact hHeld | (refine ⟨by go_grown, ?_⟩; simp [Cells, go_sem]; done)) (by first | exact hHeld | (refine ⟨by go_grown, ?_⟩; simp [Cells, go_sem]; done)) (fun hHeld0 hT0 => ?_)
 refine tv 1 4 rfl rfl ?_
 try go_frame
 refine tv 2 5 rfl rfl ?_
 try go_frame
 refine tk 3 6 rfl rfl ?_ ?_ ?_
 rotate_left
 ·intro wq hSw; obtain ⟨⟨_,_,_⟩,⟨_,_,_⟩,⟨_,_,_⟩,⟨_,_,_⟩,⟨_,_,_⟩,⟨_,_,_⟩,⟨_,_,_⟩,⟨_,_,_⟩,_⟩ := hSw.2; go_simp; (try with_reducible rfl)
 try go_frame
 refine ty [0] ?_
 refine AllReadyH.cons rfl (fun K hK => ?_) AllReadyH.nil
 go_simp
 ((with_reducible refine (KI.out _).mono ?_); rintro e w1 ⟨rfl, hb⟩)
 refine hK.out _ _ (hHeld0.next hb) (fun hHeld1 => ?_)
 replace hT0 := hT0.next hb
 clear hK K; try clear hb
 try go_frame
 refine tv 4 7 rfl rfl ?_
 try go_frame
 refine ty [5] ?_
 refine AllReadyH.cons rfl (fun K hK => ?_) AllReadyH.nil
 obtain ⟨⟨t0z0,t0c0,t0f0⟩,⟨t0z1,t0c1,t0f1⟩,⟨t0z2,t0c2,t0f2⟩,_⟩ := hT0.2; (try simp at t0z0); (try simp at t0c0); (try simp at t0f0); (try simp at t0z1); (try simp at t0c1); (try simp at t0f1); (try simp at t0z2); (try simp at t0c2); (try simp at t0f2)
 go_simp
 refine hK.out _ _ (by first | exact hHeld1.alloc _ | (repeat (first | (with_reducible exact hHeld1) | (with_reducible exact (Keeps.undrewR hHeld1)) | (refine Keeps.set ?_ (by simp <;> omega) (by simp <;> omega) _) | (with_reducible refine Keeps.drew ?_)))) (fun hHeld2 => ?_)
 clear hK K; try clear hb
 try go_frame
 refine wpAnyH_done (by kernel_rfl) ?_ _
 have hHeld := hHeld2
 obtain ⟨⟨kz0,kc0,kf0⟩,⟨kz1,kc1,kf1⟩,⟨kz2,kc2,kf2⟩,⟨kz3,kc3,kf3⟩,⟨kz4,kc4,kf4⟩,⟨kz5,kc5,kf5⟩,⟨kz6,kc6,kf6⟩,⟨kz7,kc7,kf7⟩,_⟩ := hHeld.2
 all_goals
  have hB := hHeld.1
  obtain ⟨d0, d1, d2⟩ := set3 (W := w1) (B := w.heap.size + 1) (u0 := fnV 171) (u1 := fnV 172) (u2 := fnV 173) t0c0 t0c1 t0c2
  clear hHeld hHeld0 hHeld1 hHeld2 hT0 t0c0 t0c1 t0c2 t0f0 t0f1 t0f2 t0z0 t0z1 t0z2
  (try clear hHeld0); (try clear hHeld1); (try clear hHeld2); (try clear hT0); (try clear kz0 kc0 kf0); (try clear kz1 kc1 kf1); (try clear kz2 kc2 kf2); (try clear kz3 kc3 kf3); (try clear kz4 kc4 kf4); (try clear kz5 kc5 kf5); (try clear kz6 kc6 kf6); (try clear kz7 kc7 kf7); (try clear t0z0 t0c0 t0f0); (try clear t0z1 t0c1 t0f1)
  go_wp2_with fail
  refine bodyPost_ret (v := lineK) (by simp [results, Tryz.results74, go_sem, d0, d1, d2]) rfl ?_
  exact ⟨rfl, hB⟩
set_option maxRecDepth 100000 in
set_option maxHeartbeats 2000000 in
theorem says_free (v : Value) (a r n d : Int) (u : Value) (e : Int) (w : World) : Calls Tryz.prog 74 #[sgV 3 v a r n d u e] w (Ret w lineK) := by
 have KI := Lib.hid (fun W => kinds_any W)
 go_enter Tryz.func74, Tryz.ntmps74
 go_wp2_with fail
 refine region_keepsB (w0 := w) (L := [(w.heap.size, 0, .int .i64 3), (w.heap.size, 1, v), (w.heap.size, 2, .int .i64 a), (w.heap.size, 3, .int .i64 r), (w.heap.size, 4, .int .i64 n), (w.heap.size, 5, .int .i64 d), (w.heap.size, 6, u), (w.heap.size, 7, .int .i64 e)]) (M := [(w.heap.size + 1, 0, .nilFunc), (w.heap.size + 1, 1, .nilFunc), (w.heap.size + 1, 2, .nilFunc)]) (by kernel_rfl) (by first | exact hHeld | (refine ⟨by go_grown, ?_⟩; simp [Cells, go_sem]; done)) (by first | exact hHeld | (refine ⟨by go_grown, ?_⟩; simp [Cells, go_sem]; done)) (fun hHeld0 hT0 => ?_)
 refine tv 1 4 rfl rfl ?_
 try go_frame
 refine tv 2 5 rfl rfl ?_
 try go_frame
 refine tk 3 6 rfl rfl ?_ ?_ ?_
 rotate_left
 ·intro wq hSw; obtain ⟨⟨_,_,_⟩,⟨_,_,_⟩,⟨_,_,_⟩,⟨_,_,_⟩,⟨_,_,_⟩,⟨_,_,_⟩,⟨_,_,_⟩,⟨_,_,_⟩,_⟩ := hSw.2; go_simp; (try with_reducible rfl)
 try go_frame
 refine ty [0] ?_
 refine AllReadyH.cons rfl (fun K hK => ?_) AllReadyH.nil
 go_simp
 ((with_reducible refine (KI.out _).mono ?_); rintro e w1 ⟨rfl, hb⟩)
 refine hK.out _ _ (hHeld0.next hb) (fun hHeld1 => ?_)
 replace hT0 := hT0.next hb
 clear hK K; try clear hb
 try go_frame
 refine tv 4 7 rfl rfl ?_
 try go_frame
 refine ty [5] ?_
 refine AllReadyH.cons rfl (fun K hK => ?_) AllReadyH.nil
 obtain ⟨⟨t0z0,t0c0,t0f0⟩,⟨t0z1,t0c1,t0f1⟩,⟨t0z2,t0c2,t0f2⟩,_⟩ := hT0.2; (try simp at t0z0); (try simp at t0c0); (try simp at t0f0); (try simp at t0z1); (try simp at t0c1); (try simp at t0f1); (try simp at t0z2); (try simp at t0c2); (try simp at t0f2)
 go_simp
 refine hK.out _ _ (by first | exact hHeld1.alloc _ | (repeat (first | (with_reducible exact hHeld1) | (with_reducible exact (Keeps.undrewR hHeld1)) | (refine Keeps.set ?_ (by simp <;> omega) (by simp <;> omega) _) | (with_reducible refine Keeps.drew ?_)))) (fun hHeld2 => ?_)
 clear hK K; try clear hb
 try go_frame
 refine wpAnyH_done (by kernel_rfl) ?_ _
 have hHeld := hHeld2
 obtain ⟨⟨kz0,kc0,kf0⟩,⟨kz1,kc1,kf1⟩,⟨kz2,kc2,kf2⟩,⟨kz3,kc3,kf3⟩,⟨kz4,kc4,kf4⟩,⟨kz5,kc5,kf5⟩,⟨kz6,kc6,kf6⟩,⟨kz7,kc7,kf7⟩,_⟩ := hHeld.2
 all_goals
  have hB := hHeld.1
  obtain ⟨d0, d1, d2⟩ := set3 (W := w1) (B := w.heap.size + 1) (u0 := fnV 171) (u1 := fnV 172) (u2 := fnV 173) t0c0 t0c1 t0c2
  clear hHeld hHeld0 hHeld1 hHeld2 hT0 t0c0 t0c1 t0c2 t0f0 t0f1 t0f2 t0z0 t0z1 t0z2
  (try clear hHeld0); (try clear hHeld1); (try clear hHeld2); (try clear hT0); (try clear kz0 kc0 kf0); (try clear kz1 kc1 kf1); (try clear kz2 kc2 kf2); (try clear kz3 kc3 kf3); (try clear kz4 kc4 kf4); (try clear kz5 kc5 kf5); (try clear kz6 kc6 kf6); (try clear kz7 kc7 kf7); (try clear t0z0 t0c0 t0f0); (try clear t0z1 t0c1 t0f1)
  go_wp2_with fail
  refine bodyPost_ret (v := lineK) (by simp [results, Tryz.results74, go_sem, d0, d1, d2]) rfl ?_
  exact ⟨rfl, hB⟩
set_option maxRecDepth 100000 in
set_option maxHeartbeats 2000000 in
theorem says_raw (v : Value) (a r n d : Int) (u : Value) (e : Int) (w : World) : Calls Tryz.prog 74 #[sgV 4 v a r n d u e] w (Ret w rawK) := by
 have KI := Lib.hid (fun W => kinds_any W)
 go_enter Tryz.func74, Tryz.ntmps74
 go_wp2_with fail
 refine region_keepsB (w0 := w) (L := [(w.heap.size, 0, .int .i64 4), (w.heap.size, 1, v), (w.heap.size, 2, .int .i64 a), (w.heap.size, 3, .int .i64 r), (w.heap.size, 4, .int .i64 n), (w.heap.size, 5, .int .i64 d), (w.heap.size, 6, u), (w.heap.size, 7, .int .i64 e)]) (M := [(w.heap.size + 1, 0, .nilFunc), (w.heap.size + 1, 1, .nilFunc), (w.heap.size + 1, 2, .nilFunc)]) (by kernel_rfl) (by first | exact hHeld | (refine ⟨by go_grown, ?_⟩; simp [Cells, go_sem]; done)) (by first | exact hHeld | (refine ⟨by go_grown, ?_⟩; simp [Cells, go_sem]; done)) (fun hHeld0 hT0 => ?_)
 refine tv 1 4 rfl rfl ?_
 try go_frame
 refine tv 2 5 rfl rfl ?_
 try go_frame
 refine tk 3 6 rfl rfl ?_ ?_ ?_
 rotate_left
 ·intro wq hSw; obtain ⟨⟨_,_,_⟩,⟨_,_,_⟩,⟨_,_,_⟩,⟨_,_,_⟩,⟨_,_,_⟩,⟨_,_,_⟩,⟨_,_,_⟩,⟨_,_,_⟩,_⟩ := hSw.2; go_simp; (try with_reducible rfl)
 try go_frame
 refine ty [0] ?_
 refine AllReadyH.cons rfl (fun K hK => ?_) AllReadyH.nil
 go_simp
 ((with_reducible refine (KI.out _).mono ?_); rintro e w1 ⟨rfl, hb⟩)
 refine hK.out _ _ (hHeld0.next hb) (fun hHeld1 => ?_)
 replace hT0 := hT0.next hb
 clear hK K; try clear hb
 try go_frame
 refine tv 4 7 rfl rfl ?_
 try go_frame
 refine ty [5] ?_
 refine AllReadyH.cons rfl (fun K hK => ?_) AllReadyH.nil
 obtain ⟨⟨t0z0,t0c0,t0f0⟩,⟨t0z1,t0c1,t0f1⟩,⟨t0z2,t0c2,t0f2⟩,_⟩ := hT0.2; (try simp at t0z0); (try simp at t0c0); (try simp at t0f0); (try simp at t0z1); (try simp at t0c1); (try simp at t0f1); (try simp at t0z2); (try simp at t0c2); (try simp at t0f2)
 go_simp
 refine hK.out _ _ (by first | exact hHeld1.alloc _ | (repeat (first | (with_reducible exact hHeld1) | (with_reducible exact (Keeps.undrewR hHeld1)) | (refine Keeps.set ?_ (by simp <;> omega) (by simp <;> omega) _) | (with_reducible refine Keeps.drew ?_)))) (fun hHeld2 => ?_)
 clear hK K; try clear hb
 try go_frame
 refine wpAnyH_done (by kernel_rfl) ?_ _
 have hHeld := hHeld2
 obtain ⟨⟨kz0,kc0,kf0⟩,⟨kz1,kc1,kf1⟩,⟨kz2,kc2,kf2⟩,⟨kz3,kc3,kf3⟩,⟨kz4,kc4,kf4⟩,⟨kz5,kc5,kf5⟩,⟨kz6,kc6,kf6⟩,⟨kz7,kc7,kf7⟩,_⟩ := hHeld.2
 all_goals
  have hB := hHeld.1
  obtain ⟨d0, d1, d2⟩ := set3 (W := w1) (B := w.heap.size + 1) (u0 := fnV 176) (u1 := fnV 177) (u2 := fnV 178) t0c0 t0c1 t0c2
  clear hHeld hHeld0 hHeld1 hHeld2 hT0 t0c0 t0c1 t0c2 t0f0 t0f1 t0f2 t0z0 t0z1 t0z2
  (try clear hHeld0); (try clear hHeld1); (try clear hHeld2); (try clear hT0); (try clear kz0 kc0 kf0); (try clear kz1 kc1 kf1); (try clear kz2 kc2 kf2); (try clear kz3 kc3 kf3); (try clear kz4 kc4 kf4); (try clear kz5 kc5 kf5); (try clear kz6 kc6 kf6); (try clear kz7 kc7 kf7); (try clear t0z0 t0c0 t0f0); (try clear t0z1 t0c1 t0f1)
  go_wp2_with fail
  refine bodyPost_ret (v := rawK) (by simp [results, Tryz.results74, go_sem, d0, d1, d2]) rfl ?_
  exact ⟨rfl, hB⟩
end Go.Proofs.YtcfidimnbamnkaaGreat.P11
