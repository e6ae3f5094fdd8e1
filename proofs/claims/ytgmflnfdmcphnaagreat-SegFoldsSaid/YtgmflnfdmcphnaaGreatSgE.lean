/-
  Layer 11: what each kind says. Conditions: those written at each fact.
-/
import Derived.Maps.RangeWalk
import Derived.Test.YtgmflnfdmcphnaaGreatSgB
import Derived.Laws.EntriesVeiled
namespace Go.Proofs.YtgmflnfdmcphnaaGreat.P11
open Go.RowKit Go.Shelf Go.Proofs.YtgmflnfdmcphnaaGreat.P7

abbrev fnV (f : Nat) : Value := .func (.func f) #[] #[]
/-- What each kind says: nothing of 0; of a flat line; of a line, twice; of a row. -/
abbrev kindsV : Value := .agg #[.nilFunc, .nilFunc, .nilFunc, fnV 125, fnV 128, fnV 129, fnV 125, fnV 126, fnV 127, fnV 125, fnV 126, fnV 127, fnV 130, fnV 131, fnV 132]
set_option maxRecDepth 100000 in
set_option maxHeartbeats 2000000 in
theorem kinds_any (w : World) : Calls Tryz.prog 95 #[] w (Ret w kindsV) := by
  go_enter Tryz.func95, Tryz.ntmps95
  go_wp2_with fail
  go_returns
  exact ⟨rfl, by go_grown⟩
/-- What a kind says. -/
abbrev lineK : Value := .agg #[fnV 125, fnV 126, fnV 127]
abbrev flatK : Value := .agg #[fnV 125, fnV 128, fnV 129]
abbrev rawK : Value := .agg #[fnV 130, fnV 131, fnV 132]
theorem run_index_agg {P : Program} (w : World) (t e : TypeId) (n z : Nat) (cs : Array Value) (i : Nat) (h : P.underlying t = some (.array n e)) (ha : (isAgg e).run P w = .ok true w) (hs : (sizeOf e).run P w = .ok z w)
    (hi : i < n) : (Instr.index t (.agg cs) (.int .i64 i)).run P w = .ok (.agg (cs.extract (i * z) (i * z + z))) w := by
  simp [Instr.index, run_underlying h, asIntOf, hi, go_sem, part, ha, hs]
theorem index1 (W : World) : (Instr.index 152 kindsV (.int .i64 1)).run Tryz.prog W = .ok flatK W :=
  run_index_agg W _ _ 5 3 _ 1 Tryz.underlying152 (Tryz.isAgg103 W) (Tryz.sizeOf103 W) (by decide)
theorem index2 (W : World) : (Instr.index 152 kindsV (.int .i64 2)).run Tryz.prog W = .ok lineK W :=
  run_index_agg W _ _ 5 3 _ 2 Tryz.underlying152 (Tryz.isAgg103 W) (Tryz.sizeOf103 W) (by decide)
theorem index3 (W : World) : (Instr.index 152 kindsV (.int .i64 3)).run Tryz.prog W = .ok lineK W :=
  run_index_agg W _ _ 5 3 _ 3 Tryz.underlying152 (Tryz.isAgg103 W) (Tryz.sizeOf103 W) (by decide)
theorem index4 (W : World) : (Instr.index 152 kindsV (.int .i64 4)).run Tryz.prog W = .ok rawK W :=
  run_index_agg W _ _ 5 3 _ 4 Tryz.underlying152 (Tryz.isAgg103 W) (Tryz.sizeOf103 W) (by decide)
attribute [local go_sem] index1 index2 index3 index4
set_option maxRecDepth 100000 in
set_option maxHeartbeats 2000000 in
theorem says_flat (v : Value) (a r n d : Int) (u : Value) (e : Int) (w : World) : Calls Tryz.prog 58 #[sgV 1 v a r n d u e] w (Ret w flatK) := by
  have KI := Lib.hid (fun W => kinds_any W)
  go_enter Tryz.func58, Tryz.ntmps58
  go_wp2_with fail
  refine region_keepsB (w0 := w) (L := [(w.heap.size, 0, .int .i64 1), (w.heap.size, 1, v), (w.heap.size, 2, .int .i64 a), (w.heap.size, 3, .int .i64 r), (w.heap.size, 4, .int .i64 n), (w.heap.size, 5, .int .i64 d), (w.heap.size, 6, u), (w.heap.size, 7, .int .i64 e)]) (M := [(w.heap.size + 1, 0, .nilFunc), (w.heap.size + 1, 1, .nilFunc), (w.heap.size + 1, 2, .nilFunc)]) (by kernel_rfl) (by first | exact hHeld | (refine ⟨by go_grown, ?_⟩; simp [Cells, go_sem]; done)) (by first | exact hHeld | (refine ⟨by go_grown, ?_⟩; simp [Cells, go_sem]; done)) (fun hHeld0 hT0 => ?_)
  refine wpAnyH_take (i := 1) (oi := ⟨some 4, _, _, _, _, _⟩) (v := ?_) rfl (by kernel_rfl) (by kernel_rfl) (by kernel_rfl) (fun _ _ _ h => h) (Or.inl ⟨by rfl, ?_⟩) (by assumption) ?_
  rotate_left
  · intro wq hSw; go_simp; (try with_reducible rfl)
  try go_frame
  refine wpAnyH_take (i := 2) (oi := ⟨some 5, _, _, _, _, _⟩) (v := ?_) rfl (by kernel_rfl) (by kernel_rfl) (by kernel_rfl) (fun _ _ _ h => h) (Or.inl ⟨by rfl, ?_⟩) (by assumption) ?_
  rotate_left
  · intro wq hSw; go_simp; (try with_reducible rfl)
  try go_frame
  refine wpAnyH_take (i := 3) (oi := ⟨some 6, _, _, _, _, _⟩) (v := ?_) rfl (by kernel_rfl) (by kernel_rfl) (by kernel_rfl) (fun _ _ _ h => h) (Or.inl ⟨by rfl, ?_⟩) (by assumption) ?_
  rotate_left
  · intro wq hSw; obtain ⟨⟨qz0, qc0, qf0⟩, ⟨qz1, qc1, qf1⟩, ⟨qz2, qc2, qf2⟩, ⟨qz3, qc3, qf3⟩, ⟨qz4, qc4, qf4⟩, ⟨qz5, qc5, qf5⟩, ⟨qz6, qc6, qf6⟩, ⟨qz7, qc7, qf7⟩, _⟩ := hSw.2; go_simp; (try with_reducible rfl)
  try go_frame
  refine wpAnyH_ready (rs := [0]) (by kernel_rfl) (by simp) ?_
  refine AllReadyH.cons (o := ⟨some 3, _, _, _, _, _⟩) rfl (fun K hK => ?_) AllReadyH.nil
  go_simp
  ((with_reducible refine (KI.out _).mono ?_); rintro e w1 ⟨rfl, hb⟩)
  refine hK.out _ _ (hHeld0.next hb) (fun hHeld1 => ?_)
  replace hT0 := hT0.next hb
  clear hK K
  try clear hb
  try go_frame
  refine wpAnyH_take (i := 4) (oi := ⟨some 7, _, _, _, _, _⟩) (v := ?_) rfl (by kernel_rfl) (by kernel_rfl) (by kernel_rfl) (fun _ _ _ h => h) (Or.inl ⟨by rfl, ?_⟩) (by assumption) ?_
  rotate_left
  · intro wq hSw; go_simp; (try with_reducible rfl)
  try go_frame
  refine wpAnyH_ready (rs := [5]) (by kernel_rfl) (by simp) ?_
  refine AllReadyH.cons (o := ⟨none, _, _, _, _, _⟩) rfl (fun K hK => ?_) AllReadyH.nil
  obtain ⟨⟨t0z0, t0c0, t0f0⟩, ⟨t0z1, t0c1, t0f1⟩, ⟨t0z2, t0c2, t0f2⟩, _⟩ := hT0.2; (try simp at t0z0); (try simp at t0c0); (try simp at t0f0); (try simp at t0z1); (try simp at t0c1); (try simp at t0f1); (try simp at t0z2); (try simp at t0c2); (try simp at t0f2)
  go_simp
  refine hK.out _ _ (by first | exact hHeld1.alloc _ | (repeat (first | (with_reducible exact hHeld1) | (with_reducible exact (Keeps.undrewR hHeld1)) | (refine Keeps.set ?_ (by simp <;> omega) (by simp <;> omega) _) | (with_reducible refine Keeps.drew ?_)))) (fun hHeld2 => ?_)
  clear hK K
  try clear hb
  try go_frame
  refine wpAnyH_done (by kernel_rfl) ?_ _
  have hHeld := hHeld2
  obtain ⟨⟨kz0, kc0, kf0⟩, ⟨kz1, kc1, kf1⟩, ⟨kz2, kc2, kf2⟩, ⟨kz3, kc3, kf3⟩, ⟨kz4, kc4, kf4⟩, ⟨kz5, kc5, kf5⟩, ⟨kz6, kc6, kf6⟩, ⟨kz7, kc7, kf7⟩, _⟩ := hHeld.2
  all_goals
    have hB := hHeld.1
    obtain ⟨d0, d1, d2⟩ := set3 (W := w1) (B := w.heap.size + 1) (u0 := fnV 125) (u1 := fnV 128) (u2 := fnV 129) t0c0 t0c1 t0c2
    clear hHeld hHeld0 hHeld1 hHeld2 hT0 t0c0 t0c1 t0c2 t0f0 t0f1 t0f2 t0z0 t0z1 t0z2
    (try clear hHeld0); (try clear hHeld1); (try clear hHeld2); (try clear hHeld3); (try clear hHeld4); (try clear hHeld5); (try clear hHeld6); (try clear hHeld7); (try clear hHeld8); (try clear hHeld9); (try clear hHeld10); (try clear hHeld11); (try clear hHeld12); (try clear hHeld13); (try clear hT0); (try clear kz0 kc0 kf0); (try clear kz1 kc1 kf1); (try clear kz2 kc2 kf2); (try clear kz3 kc3 kf3); (try clear kz4 kc4 kf4); (try clear kz5 kc5 kf5); (try clear kz6 kc6 kf6); (try clear kz7 kc7 kf7); (try clear kz8 kc8 kf8); (try clear kz9 kc9 kf9); (try clear kz10 kc10 kf10); (try clear kz11 kc11 kf11); (try clear kz12 kc12 kf12); (try clear kz13 kc13 kf13); (try clear t0z0 t0c0 t0f0); (try clear t0z1 t0c1 t0f1)
    go_wp2_with fail
    refine bodyPost_ret (v := flatK) (by simp [results, Tryz.results58, go_sem, d0, d1, d2]) rfl ?_
    exact ⟨rfl, hB⟩
set_option maxRecDepth 100000 in
set_option maxHeartbeats 2000000 in
theorem says_tilt (v : Value) (a r n d : Int) (u : Value) (e : Int) (w : World) : Calls Tryz.prog 58 #[sgV 2 v a r n d u e] w (Ret w lineK) := by
  have KI := Lib.hid (fun W => kinds_any W)
  go_enter Tryz.func58, Tryz.ntmps58
  go_wp2_with fail
  refine region_keepsB (w0 := w) (L := [(w.heap.size, 0, .int .i64 2), (w.heap.size, 1, v), (w.heap.size, 2, .int .i64 a), (w.heap.size, 3, .int .i64 r), (w.heap.size, 4, .int .i64 n), (w.heap.size, 5, .int .i64 d), (w.heap.size, 6, u), (w.heap.size, 7, .int .i64 e)]) (M := [(w.heap.size + 1, 0, .nilFunc), (w.heap.size + 1, 1, .nilFunc), (w.heap.size + 1, 2, .nilFunc)]) (by kernel_rfl) (by first | exact hHeld | (refine ⟨by go_grown, ?_⟩; simp [Cells, go_sem]; done)) (by first | exact hHeld | (refine ⟨by go_grown, ?_⟩; simp [Cells, go_sem]; done)) (fun hHeld0 hT0 => ?_)
  refine wpAnyH_take (i := 1) (oi := ⟨some 4, _, _, _, _, _⟩) (v := ?_) rfl (by kernel_rfl) (by kernel_rfl) (by kernel_rfl) (fun _ _ _ h => h) (Or.inl ⟨by rfl, ?_⟩) (by assumption) ?_
  rotate_left
  · intro wq hSw; go_simp; (try with_reducible rfl)
  try go_frame
  refine wpAnyH_take (i := 2) (oi := ⟨some 5, _, _, _, _, _⟩) (v := ?_) rfl (by kernel_rfl) (by kernel_rfl) (by kernel_rfl) (fun _ _ _ h => h) (Or.inl ⟨by rfl, ?_⟩) (by assumption) ?_
  rotate_left
  · intro wq hSw; go_simp; (try with_reducible rfl)
  try go_frame
  refine wpAnyH_take (i := 3) (oi := ⟨some 6, _, _, _, _, _⟩) (v := ?_) rfl (by kernel_rfl) (by kernel_rfl) (by kernel_rfl) (fun _ _ _ h => h) (Or.inl ⟨by rfl, ?_⟩) (by assumption) ?_
  rotate_left
  · intro wq hSw; obtain ⟨⟨qz0, qc0, qf0⟩, ⟨qz1, qc1, qf1⟩, ⟨qz2, qc2, qf2⟩, ⟨qz3, qc3, qf3⟩, ⟨qz4, qc4, qf4⟩, ⟨qz5, qc5, qf5⟩, ⟨qz6, qc6, qf6⟩, ⟨qz7, qc7, qf7⟩, _⟩ := hSw.2; go_simp; (try with_reducible rfl)
  try go_frame
  refine wpAnyH_ready (rs := [0]) (by kernel_rfl) (by simp) ?_
  refine AllReadyH.cons (o := ⟨some 3, _, _, _, _, _⟩) rfl (fun K hK => ?_) AllReadyH.nil
  go_simp
  ((with_reducible refine (KI.out _).mono ?_); rintro e w1 ⟨rfl, hb⟩)
  refine hK.out _ _ (hHeld0.next hb) (fun hHeld1 => ?_)
  replace hT0 := hT0.next hb
  clear hK K
  try clear hb
  try go_frame
  refine wpAnyH_take (i := 4) (oi := ⟨some 7, _, _, _, _, _⟩) (v := ?_) rfl (by kernel_rfl) (by kernel_rfl) (by kernel_rfl) (fun _ _ _ h => h) (Or.inl ⟨by rfl, ?_⟩) (by assumption) ?_
  rotate_left
  · intro wq hSw; go_simp; (try with_reducible rfl)
  try go_frame
  refine wpAnyH_ready (rs := [5]) (by kernel_rfl) (by simp) ?_
  refine AllReadyH.cons (o := ⟨none, _, _, _, _, _⟩) rfl (fun K hK => ?_) AllReadyH.nil
  obtain ⟨⟨t0z0, t0c0, t0f0⟩, ⟨t0z1, t0c1, t0f1⟩, ⟨t0z2, t0c2, t0f2⟩, _⟩ := hT0.2; (try simp at t0z0); (try simp at t0c0); (try simp at t0f0); (try simp at t0z1); (try simp at t0c1); (try simp at t0f1); (try simp at t0z2); (try simp at t0c2); (try simp at t0f2)
  go_simp
  refine hK.out _ _ (by first | exact hHeld1.alloc _ | (repeat (first | (with_reducible exact hHeld1) | (with_reducible exact (Keeps.undrewR hHeld1)) | (refine Keeps.set ?_ (by simp <;> omega) (by simp <;> omega) _) | (with_reducible refine Keeps.drew ?_)))) (fun hHeld2 => ?_)
  clear hK K
  try clear hb
  try go_frame
  refine wpAnyH_done (by kernel_rfl) ?_ _
  have hHeld := hHeld2
  obtain ⟨⟨kz0, kc0, kf0⟩, ⟨kz1, kc1, kf1⟩, ⟨kz2, kc2, kf2⟩, ⟨kz3, kc3, kf3⟩, ⟨kz4, kc4, kf4⟩, ⟨kz5, kc5, kf5⟩, ⟨kz6, kc6, kf6⟩, ⟨kz7, kc7, kf7⟩, _⟩ := hHeld.2
  all_goals
    have hB := hHeld.1
    obtain ⟨d0, d1, d2⟩ := set3 (W := w1) (B := w.heap.size + 1) (u0 := fnV 125) (u1 := fnV 126) (u2 := fnV 127) t0c0 t0c1 t0c2
    clear hHeld hHeld0 hHeld1 hHeld2 hT0 t0c0 t0c1 t0c2 t0f0 t0f1 t0f2 t0z0 t0z1 t0z2
    (try clear hHeld0); (try clear hHeld1); (try clear hHeld2); (try clear hHeld3); (try clear hHeld4); (try clear hHeld5); (try clear hHeld6); (try clear hHeld7); (try clear hHeld8); (try clear hHeld9); (try clear hHeld10); (try clear hHeld11); (try clear hHeld12); (try clear hHeld13); (try clear hT0); (try clear kz0 kc0 kf0); (try clear kz1 kc1 kf1); (try clear kz2 kc2 kf2); (try clear kz3 kc3 kf3); (try clear kz4 kc4 kf4); (try clear kz5 kc5 kf5); (try clear kz6 kc6 kf6); (try clear kz7 kc7 kf7); (try clear kz8 kc8 kf8); (try clear kz9 kc9 kf9); (try clear kz10 kc10 kf10); (try clear kz11 kc11 kf11); (try clear kz12 kc12 kf12); (try clear kz13 kc13 kf13); (try clear t0z0 t0c0 t0f0); (try clear t0z1 t0c1 t0f1)
    go_wp2_with fail
    refine bodyPost_ret (v := lineK) (by simp [results, Tryz.results58, go_sem, d0, d1, d2]) rfl ?_
    exact ⟨rfl, hB⟩
set_option maxRecDepth 100000 in
set_option maxHeartbeats 2000000 in
theorem says_free (v : Value) (a r n d : Int) (u : Value) (e : Int) (w : World) : Calls Tryz.prog 58 #[sgV 3 v a r n d u e] w (Ret w lineK) := by
  have KI := Lib.hid (fun W => kinds_any W)
  go_enter Tryz.func58, Tryz.ntmps58
  go_wp2_with fail
  refine region_keepsB (w0 := w) (L := [(w.heap.size, 0, .int .i64 3), (w.heap.size, 1, v), (w.heap.size, 2, .int .i64 a), (w.heap.size, 3, .int .i64 r), (w.heap.size, 4, .int .i64 n), (w.heap.size, 5, .int .i64 d), (w.heap.size, 6, u), (w.heap.size, 7, .int .i64 e)]) (M := [(w.heap.size + 1, 0, .nilFunc), (w.heap.size + 1, 1, .nilFunc), (w.heap.size + 1, 2, .nilFunc)]) (by kernel_rfl) (by first | exact hHeld | (refine ⟨by go_grown, ?_⟩; simp [Cells, go_sem]; done)) (by first | exact hHeld | (refine ⟨by go_grown, ?_⟩; simp [Cells, go_sem]; done)) (fun hHeld0 hT0 => ?_)
  refine wpAnyH_take (i := 1) (oi := ⟨some 4, _, _, _, _, _⟩) (v := ?_) rfl (by kernel_rfl) (by kernel_rfl) (by kernel_rfl) (fun _ _ _ h => h) (Or.inl ⟨by rfl, ?_⟩) (by assumption) ?_
  rotate_left
  · intro wq hSw; go_simp; (try with_reducible rfl)
  try go_frame
  refine wpAnyH_take (i := 2) (oi := ⟨some 5, _, _, _, _, _⟩) (v := ?_) rfl (by kernel_rfl) (by kernel_rfl) (by kernel_rfl) (fun _ _ _ h => h) (Or.inl ⟨by rfl, ?_⟩) (by assumption) ?_
  rotate_left
  · intro wq hSw; go_simp; (try with_reducible rfl)
  try go_frame
  refine wpAnyH_take (i := 3) (oi := ⟨some 6, _, _, _, _, _⟩) (v := ?_) rfl (by kernel_rfl) (by kernel_rfl) (by kernel_rfl) (fun _ _ _ h => h) (Or.inl ⟨by rfl, ?_⟩) (by assumption) ?_
  rotate_left
  · intro wq hSw; obtain ⟨⟨qz0, qc0, qf0⟩, ⟨qz1, qc1, qf1⟩, ⟨qz2, qc2, qf2⟩, ⟨qz3, qc3, qf3⟩, ⟨qz4, qc4, qf4⟩, ⟨qz5, qc5, qf5⟩, ⟨qz6, qc6, qf6⟩, ⟨qz7, qc7, qf7⟩, _⟩ := hSw.2; go_simp; (try with_reducible rfl)
  try go_frame
  refine wpAnyH_ready (rs := [0]) (by kernel_rfl) (by simp) ?_
  refine AllReadyH.cons (o := ⟨some 3, _, _, _, _, _⟩) rfl (fun K hK => ?_) AllReadyH.nil
  go_simp
  ((with_reducible refine (KI.out _).mono ?_); rintro e w1 ⟨rfl, hb⟩)
  refine hK.out _ _ (hHeld0.next hb) (fun hHeld1 => ?_)
  replace hT0 := hT0.next hb
  clear hK K
  try clear hb
  try go_frame
  refine wpAnyH_take (i := 4) (oi := ⟨some 7, _, _, _, _, _⟩) (v := ?_) rfl (by kernel_rfl) (by kernel_rfl) (by kernel_rfl) (fun _ _ _ h => h) (Or.inl ⟨by rfl, ?_⟩) (by assumption) ?_
  rotate_left
  · intro wq hSw; go_simp; (try with_reducible rfl)
  try go_frame
  refine wpAnyH_ready (rs := [5]) (by kernel_rfl) (by simp) ?_
  refine AllReadyH.cons (o := ⟨none, _, _, _, _, _⟩) rfl (fun K hK => ?_) AllReadyH.nil
  obtain ⟨⟨t0z0, t0c0, t0f0⟩, ⟨t0z1, t0c1, t0f1⟩, ⟨t0z2, t0c2, t0f2⟩, _⟩ := hT0.2; (try simp at t0z0); (try simp at t0c0); (try simp at t0f0); (try simp at t0z1); (try simp at t0c1); (try simp at t0f1); (try simp at t0z2); (try simp at t0c2); (try simp at t0f2)
  go_simp
  refine hK.out _ _ (by first | exact hHeld1.alloc _ | (repeat (first | (with_reducible exact hHeld1) | (with_reducible exact (Keeps.undrewR hHeld1)) | (refine Keeps.set ?_ (by simp <;> omega) (by simp <;> omega) _) | (with_reducible refine Keeps.drew ?_)))) (fun hHeld2 => ?_)
  clear hK K
  try clear hb
  try go_frame
  refine wpAnyH_done (by kernel_rfl) ?_ _
  have hHeld := hHeld2
  obtain ⟨⟨kz0, kc0, kf0⟩, ⟨kz1, kc1, kf1⟩, ⟨kz2, kc2, kf2⟩, ⟨kz3, kc3, kf3⟩, ⟨kz4, kc4, kf4⟩, ⟨kz5, kc5, kf5⟩, ⟨kz6, kc6, kf6⟩, ⟨kz7, kc7, kf7⟩, _⟩ := hHeld.2
  all_goals
    have hB := hHeld.1
    obtain ⟨d0, d1, d2⟩ := set3 (W := w1) (B := w.heap.size + 1) (u0 := fnV 125) (u1 := fnV 126) (u2 := fnV 127) t0c0 t0c1 t0c2
    clear hHeld hHeld0 hHeld1 hHeld2 hT0 t0c0 t0c1 t0c2 t0f0 t0f1 t0f2 t0z0 t0z1 t0z2
    (try clear hHeld0); (try clear hHeld1); (try clear hHeld2); (try clear hHeld3); (try clear hHeld4); (try clear hHeld5); (try clear hHeld6); (try clear hHeld7); (try clear hHeld8); (try clear hHeld9); (try clear hHeld10); (try clear hHeld11); (try clear hHeld12); (try clear hHeld13); (try clear hT0); (try clear kz0 kc0 kf0); (try clear kz1 kc1 kf1); (try clear kz2 kc2 kf2); (try clear kz3 kc3 kf3); (try clear kz4 kc4 kf4); (try clear kz5 kc5 kf5); (try clear kz6 kc6 kf6); (try clear kz7 kc7 kf7); (try clear kz8 kc8 kf8); (try clear kz9 kc9 kf9); (try clear kz10 kc10 kf10); (try clear kz11 kc11 kf11); (try clear kz12 kc12 kf12); (try clear kz13 kc13 kf13); (try clear t0z0 t0c0 t0f0); (try clear t0z1 t0c1 t0f1)
    go_wp2_with fail
    refine bodyPost_ret (v := lineK) (by simp [results, Tryz.results58, go_sem, d0, d1, d2]) rfl ?_
    exact ⟨rfl, hB⟩
set_option maxRecDepth 100000 in
set_option maxHeartbeats 2000000 in
theorem says_raw (v : Value) (a r n d : Int) (u : Value) (e : Int) (w : World) : Calls Tryz.prog 58 #[sgV 4 v a r n d u e] w (Ret w rawK) := by
  have KI := Lib.hid (fun W => kinds_any W)
  go_enter Tryz.func58, Tryz.ntmps58
  go_wp2_with fail
  refine region_keepsB (w0 := w) (L := [(w.heap.size, 0, .int .i64 4), (w.heap.size, 1, v), (w.heap.size, 2, .int .i64 a), (w.heap.size, 3, .int .i64 r), (w.heap.size, 4, .int .i64 n), (w.heap.size, 5, .int .i64 d), (w.heap.size, 6, u), (w.heap.size, 7, .int .i64 e)]) (M := [(w.heap.size + 1, 0, .nilFunc), (w.heap.size + 1, 1, .nilFunc), (w.heap.size + 1, 2, .nilFunc)]) (by kernel_rfl) (by first | exact hHeld | (refine ⟨by go_grown, ?_⟩; simp [Cells, go_sem]; done)) (by first | exact hHeld | (refine ⟨by go_grown, ?_⟩; simp [Cells, go_sem]; done)) (fun hHeld0 hT0 => ?_)
  refine wpAnyH_take (i := 1) (oi := ⟨some 4, _, _, _, _, _⟩) (v := ?_) rfl (by kernel_rfl) (by kernel_rfl) (by kernel_rfl) (fun _ _ _ h => h) (Or.inl ⟨by rfl, ?_⟩) (by assumption) ?_
  rotate_left
  · intro wq hSw; go_simp; (try with_reducible rfl)
  try go_frame
  refine wpAnyH_take (i := 2) (oi := ⟨some 5, _, _, _, _, _⟩) (v := ?_) rfl (by kernel_rfl) (by kernel_rfl) (by kernel_rfl) (fun _ _ _ h => h) (Or.inl ⟨by rfl, ?_⟩) (by assumption) ?_
  rotate_left
  · intro wq hSw; go_simp; (try with_reducible rfl)
  try go_frame
  refine wpAnyH_take (i := 3) (oi := ⟨some 6, _, _, _, _, _⟩) (v := ?_) rfl (by kernel_rfl) (by kernel_rfl) (by kernel_rfl) (fun _ _ _ h => h) (Or.inl ⟨by rfl, ?_⟩) (by assumption) ?_
  rotate_left
  · intro wq hSw; obtain ⟨⟨qz0, qc0, qf0⟩, ⟨qz1, qc1, qf1⟩, ⟨qz2, qc2, qf2⟩, ⟨qz3, qc3, qf3⟩, ⟨qz4, qc4, qf4⟩, ⟨qz5, qc5, qf5⟩, ⟨qz6, qc6, qf6⟩, ⟨qz7, qc7, qf7⟩, _⟩ := hSw.2; go_simp; (try with_reducible rfl)
  try go_frame
  refine wpAnyH_ready (rs := [0]) (by kernel_rfl) (by simp) ?_
  refine AllReadyH.cons (o := ⟨some 3, _, _, _, _, _⟩) rfl (fun K hK => ?_) AllReadyH.nil
  go_simp
  ((with_reducible refine (KI.out _).mono ?_); rintro e w1 ⟨rfl, hb⟩)
  refine hK.out _ _ (hHeld0.next hb) (fun hHeld1 => ?_)
  replace hT0 := hT0.next hb
  clear hK K
  try clear hb
  try go_frame
  refine wpAnyH_take (i := 4) (oi := ⟨some 7, _, _, _, _, _⟩) (v := ?_) rfl (by kernel_rfl) (by kernel_rfl) (by kernel_rfl) (fun _ _ _ h => h) (Or.inl ⟨by rfl, ?_⟩) (by assumption) ?_
  rotate_left
  · intro wq hSw; go_simp; (try with_reducible rfl)
  try go_frame
  refine wpAnyH_ready (rs := [5]) (by kernel_rfl) (by simp) ?_
  refine AllReadyH.cons (o := ⟨none, _, _, _, _, _⟩) rfl (fun K hK => ?_) AllReadyH.nil
  obtain ⟨⟨t0z0, t0c0, t0f0⟩, ⟨t0z1, t0c1, t0f1⟩, ⟨t0z2, t0c2, t0f2⟩, _⟩ := hT0.2; (try simp at t0z0); (try simp at t0c0); (try simp at t0f0); (try simp at t0z1); (try simp at t0c1); (try simp at t0f1); (try simp at t0z2); (try simp at t0c2); (try simp at t0f2)
  go_simp
  refine hK.out _ _ (by first | exact hHeld1.alloc _ | (repeat (first | (with_reducible exact hHeld1) | (with_reducible exact (Keeps.undrewR hHeld1)) | (refine Keeps.set ?_ (by simp <;> omega) (by simp <;> omega) _) | (with_reducible refine Keeps.drew ?_)))) (fun hHeld2 => ?_)
  clear hK K
  try clear hb
  try go_frame
  refine wpAnyH_done (by kernel_rfl) ?_ _
  have hHeld := hHeld2
  obtain ⟨⟨kz0, kc0, kf0⟩, ⟨kz1, kc1, kf1⟩, ⟨kz2, kc2, kf2⟩, ⟨kz3, kc3, kf3⟩, ⟨kz4, kc4, kf4⟩, ⟨kz5, kc5, kf5⟩, ⟨kz6, kc6, kf6⟩, ⟨kz7, kc7, kf7⟩, _⟩ := hHeld.2
  all_goals
    have hB := hHeld.1
    obtain ⟨d0, d1, d2⟩ := set3 (W := w1) (B := w.heap.size + 1) (u0 := fnV 130) (u1 := fnV 131) (u2 := fnV 132) t0c0 t0c1 t0c2
    clear hHeld hHeld0 hHeld1 hHeld2 hT0 t0c0 t0c1 t0c2 t0f0 t0f1 t0f2 t0z0 t0z1 t0z2
    (try clear hHeld0); (try clear hHeld1); (try clear hHeld2); (try clear hHeld3); (try clear hHeld4); (try clear hHeld5); (try clear hHeld6); (try clear hHeld7); (try clear hHeld8); (try clear hHeld9); (try clear hHeld10); (try clear hHeld11); (try clear hHeld12); (try clear hHeld13); (try clear hT0); (try clear kz0 kc0 kf0); (try clear kz1 kc1 kf1); (try clear kz2 kc2 kf2); (try clear kz3 kc3 kf3); (try clear kz4 kc4 kf4); (try clear kz5 kc5 kf5); (try clear kz6 kc6 kf6); (try clear kz7 kc7 kf7); (try clear kz8 kc8 kf8); (try clear kz9 kc9 kf9); (try clear kz10 kc10 kf10); (try clear kz11 kc11 kf11); (try clear kz12 kc12 kf12); (try clear kz13 kc13 kf13); (try clear t0z0 t0c0 t0f0); (try clear t0z1 t0c1 t0f1)
    go_wp2_with fail
    refine bodyPost_ret (v := rawK) (by simp [results, Tryz.results58, go_sem, d0, d1, d2]) rfl ?_
    exact ⟨rfl, hB⟩
end Go.Proofs.YtgmflnfdmcphnaaGreat.P11
