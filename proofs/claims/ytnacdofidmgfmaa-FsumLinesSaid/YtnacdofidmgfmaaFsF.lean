/-
  Layer 6: what the steps come to, and what their rests do. Conditions: those written at each fact.
-/
import Derived.Test.YtnacdofidmgfmaaFsE
namespace Go.Proofs.Ytnacdofidmgfmaa
open Go.RowKit

theorem new6 (W : World) (c0 c1 c2 c3 c4 c5 : Value) (t : TypeId) : Cells [(W.heap.size, 0, c0), (W.heap.size, 1, c1), (W.heap.size, 2, c2), (W.heap.size, 3, c3), (W.heap.size, 4, c4), (W.heap.size, 5, c5)] (W.alloc (.cells #[c0, c1, c2, c3, c4, c5] t)) := by
  simp [Cells, go_sem]
set_option maxRecDepth 100000 in
set_option maxHeartbeats 4000000 in
theorem come_any (n : Nat) (a b m : Int) (hn : n ≤ 256) (ha : termB a = true) (hb : termB b = true) (hm0 : 1 ≤ m) (hm1 : m ≤ 281474976710656) (w : World) :
    Calls Try.prog 28 #[.int .i64 n, wideV (rhi a) (rlo a), wideV (rhi b) (rlo b), .int .i64 m] w (Ret w (wideV (rhi (floorS n a b m)) (rlo (floorS n a b m)))) := by
  obtain ⟨_, _, r3, r4, _, _⟩ := room hn ha hb hm0
  have CU := Lib.hid (fun W => cut_any n a b m hn ha hb hm0 hm1 W)
  have fl := floor_mod hm0 n a b
  have ra0 := Int.emod_nonneg a (show m ≠ 0 by omega)
  have ra1 := Int.emod_lt_of_pos a (show 0 < m by omega)
  have rb0 := Int.emod_nonneg b (show m ≠ 0 by omega)
  have rb1 := Int.emod_lt_of_pos b (show 0 < m by omega)
  have AL := fun s W k => addAll_any s (floorS n a b m) (a / m * prN n + b / m * n) n (a % m) (b % m) m W ⟨r4, r3, hn, ra0, by omega, rb0, by omega, hm0, hm1, fl.symm, k⟩
  replace AL := Lib.hid AL
  clear r3 r4 fl ra0 ra1 rb0 rb1 ha hb hm0 hm1 hn
  generalize floorS n a b m = T at *
  generalize a / m * prN n + b / m * n = t at *
  generalize a % m = ra at *
  generalize b % m = rb at *
  simp only [sixC] at AL
  generalize rhi a = a0 at *
  generalize rlo a = a1 at *
  generalize rhi b = b0 at *
  generalize rlo b = b1 at *
  generalize rhi t = t0 at *
  generalize rlo t = t1 at *
  generalize rhi T = T0 at *
  generalize rlo T = T1 at *
  go_enter Try.func28, Try.ntmps28
  go_wp2_with fail
  refine (CU.out _).mono ?_
  rintro e w1 ⟨rfl, hb⟩
  have hHeld : Keeps w [(w.heap.size + 1 + 1, 0, .int .i64 0), (w.heap.size + 1 + 1, 1, .int .u64 0)] _ := Keeps.next (by refine ⟨by go_grown, ?_⟩; simp [Cells, go_sem]) hb
  clear hb
  obtain ⟨⟨kz0, kc0, kf0⟩, ⟨kz1, kc1, kf1⟩, _⟩ := hHeld.2
  go_wp2_with fail
  refine Calls.mono (AL.out _ _ ⟨Near.refl _ _, new6 _ _ _ _ _ _ _ _⟩) ?_
  rintro e w2 ⟨rfl, hX⟩
  have hG := (hHeld.alloc _).nextX hX (by have := hHeld.1.size; omega) (by simp; omega)
  clear hX hHeld kz0 kc0 kf0 kz1 kc1 kf1
  obtain ⟨⟨kz0, kc0, kf0⟩, ⟨kz1, kc1, kf1⟩, ⟨kz2, kc2, kf2⟩, ⟨kz3, kc3, kf3⟩, _⟩ := hG.2
  go_wp2_with fail
  obtain ⟨d0, d1⟩ := set2 (W := w2) (B := w.heap.size + 1 + 1) (u0 := .int .i64 T0) (u1 := .int .u64 T1) kc0 kc1
  refine bodyPost_ret (v := wideV T0 T1) (by simp [results, Try.results28, go_sem, d0, d1]) rfl ?_
  have h1 := hG.1
  refine ⟨rfl, ?_⟩
  go_grown
theorem int_told (z : Int) (hz : I64 z) (w : World) : Calls Try.prog 66 #[wideV (rhi z) (rlo z)] w (Ret w (.tuple #[.int .i64 z, .int .i64 0])) := by
  have h := int_any (rhi z) (rlo z) (rhi_i64 _) (rlo_u64 _) w
  rw [val_r (fits_i64 hz)] at h
  obtain ⟨h0, h1⟩ := hz
  simp only [ihi, icode, if_pos (show -9223372036854775808 ≤ z ∧ z ≤ 9223372036854775807 from ⟨h0, h1⟩)] at h
  exact h
set_option maxRecDepth 100000 in
set_option maxHeartbeats 4000000 in
theorem left_any (n : Nat) (a b m : Int) (hn : n ≤ 256) (ha : termB a = true) (hb : termB b = true) (hm0 : 1 ≤ m) (hm1 : m ≤ 281474976710656) (w : World) :
    Calls Try.prog 32 #[.int .i64 n, wideV (rhi a) (rlo a), wideV (rhi b) (rlo b), .int .i64 m] w (Ret w (.int .i64 (restS n a b m))) := by
  obtain ⟨_, _, _, r4, _, _⟩ := room hn ha hb hm0
  have CO := Lib.hid (fun W => come_any n a b m hn ha hb hm0 hm1 W)
  have PR := Lib.hid (fun W => pairs_any n hn W)
  have z0 : Fits (0 : Int) := by unfold Fits; omega
  have zh : rhi 0 = 0 := by decide +kernel
  have zl : rlo 0 = 0 := by decide +kernel
  have p0 := prN_nonneg n
  have p1 := prN_le hn
  have ta := (termB_iff a).1 ha
  have tb := (termB_iff b).1 hb
  have ma := mul_in ta ⟨p0, p1⟩ (by omega)
  have mb := mul_in tb ⟨(show (0 : Int) ≤ n by omega), (show (n : Int) ≤ 256 by omega)⟩ (by omega)
  have rf := rest_floor n a b m
  have rb := rest_bounds hm0 n a b
  have rc : (n : Int) * (m - 1) ≤ 256 * 281474976710656 := Int.mul_le_mul (by omega) (by omega) (by omega) (by omega)
  have em : floorS n a b m * -m = restS n a b m - (a * prN n + b * n) := by rw [Int.mul_neg, Int.mul_comm]; omega
  have f1 : Fits (a * prN n) := by unfold Fits; omega
  have f2 : Fits (a * prN n + b * n) := by unfold Fits; omega
  have f3 : Fits (floorS n a b m * -m) := by rw [em]; unfold Fits; omega
  have e4 : a * prN n + b * n + floorS n a b m * -m = restS n a b m := by omega
  have i4 : I64 (restS n a b m) := by unfold I64; omega
  have AD := fun s W k => sadd_any s 0 a (prN n) [] z0 (term_fits ha) (by unfold I64; omega) f1 (by rw [Int.zero_add]; exact f1) W k (by simp)
  have AE := fun s W k => sadd_any s (a * prN n) b n [] f1 (term_fits hb) (by unfold I64; omega) (by unfold Fits; omega) f2 W k (by simp)
  have AF := fun s W k => sadd_any s (a * prN n + b * n) (floorS n a b m) (-m) [] f2 r4 (by unfold I64; omega) f3 (by rw [e4]; exact fits_i64 i4) W k (by simp)
  rw [zh, zl, Int.zero_add] at AD
  rw [e4] at AF
  replace AD := Lib.hid AD
  replace AE := Lib.hid AE
  replace AF := Lib.hid AF
  have IN := Lib.hid (fun W => int_told (restS n a b m) i4 W)
  have k1 : IntKind.i64.wrap (-m) = -m := by rw [IntKind.wrap_i64]; omega
  clear r4 z0 zh zl p0 p1 ta tb ma mb rf rb rc em f1 f2 f3 e4 i4 ha hb hm0 hm1 hn
  generalize floorS n a b m = T at *
  generalize restS n a b m = R at *
  generalize a * prN n + b * n = q at *
  generalize a * prN n = p at *
  generalize prN n = pn at *
  generalize rhi a = a0 at *
  generalize rlo a = a1 at *
  generalize rhi b = b0 at *
  generalize rlo b = b1 at *
  generalize rhi p = p0 at *
  generalize rlo p = p1 at *
  generalize rhi q = q0 at *
  generalize rlo q = q1 at *
  generalize rhi T = T0 at *
  generalize rlo T = T1 at *
  generalize rhi R = R0 at *
  generalize rlo R = R1 at *
  go_enter Try.func32, Try.ntmps32
  go_wp2_with fail
  have hA : Keeps w [(w.heap.size, 0, .int .i64 a0), (w.heap.size, 1, .int .u64 a1), (w.heap.size + 1, 0, .int .i64 b0), (w.heap.size + 1, 1, .int .u64 b1), (w.heap.size + 1 + 1, 0, .int .i64 0), (w.heap.size + 1 + 1, 1, .int .u64 0)] (((w.alloc (.cells #[.int .i64 a0, .int .u64 a1] 24)).alloc (.cells #[.int .i64 b0, .int .u64 b1] 24)).alloc (.cells #[.int .i64 0, .int .u64 0] 99)) := ⟨by go_grown, by simp [Cells, go_sem]⟩
  obtain ⟨s, hs⟩ : ∃ s, s = w.heap.size + 1 + 1 := ⟨_, rfl⟩
  have n1 : w.heap.size ≠ s := by omega
  have n2 : w.heap.size + 1 ≠ s := by omega
  have sl := Lib.hid (show w.heap.size ≤ s by omega)
  rw [← hs] at hA
  rw [← hs]
  clear hs
  refine region_keepsB (w0 := w) (L := [(w.heap.size, 0, .int .i64 a0), (w.heap.size, 1, .int .u64 a1), (w.heap.size + 1, 0, .int .i64 b0), (w.heap.size + 1, 1, .int .u64 b1)]) (M := [(s, 0, .int .i64 0), (s, 1, .int .u64 0)]) (by kernel_rfl) (hA.sub (by simp)) (hA.sub (by simp)) (fun hHeld0 hT0 => ?_)
  refine wpAnyH_take (i := 0) (oi := ⟨some 12, _, _, _, _, _⟩) (v := ?_) rfl (by kernel_rfl) (by kernel_rfl) (by kernel_rfl) (fun _ _ _ h => h) (Or.inl ⟨by rfl, ?_⟩) (by assumption) ?_
  rotate_left
  · intro wq hSw; obtain ⟨⟨qz0, qc0, qf0⟩, ⟨qz1, qc1, qf1⟩, ⟨qz2, qc2, qf2⟩, ⟨qz3, qc3, qf3⟩, _⟩ := hSw.2; go_simp; (try with_reducible rfl)
  try simp only [Act.put, List.setIfInBounds_toArray, List.set_cons_zero, List.set_cons_succ]
  refine wpAnyH_take (i := 1) (oi := ⟨some 13, _, _, _, _, _⟩) (v := ?_) rfl (by kernel_rfl) (by kernel_rfl) (by kernel_rfl) (fun _ _ _ h => h) (Or.inl ⟨by rfl, ?_⟩) (by assumption) ?_
  rotate_left
  · intro wq hSw; go_simp; (try with_reducible rfl)
  try simp only [Act.put, List.setIfInBounds_toArray, List.set_cons_zero, List.set_cons_succ]
  refine wpAnyH_ready (rs := [2]) (by kernel_rfl) (by simp) ?_
  refine AllReadyH.cons (o := ⟨some 14, _, _, _, _, _⟩) rfl (fun K hK => ?_) AllReadyH.nil
  go_simp
  (with_reducible refine Calls.mono (PR.out _) ?_); rintro e w5 ⟨rfl, hb⟩
  refine hK.out _ _ (hHeld0.next hb) (fun hHeld1 => ?_)
  replace hT0 := hT0.next hb
  clear hK K
  try clear hb
  try simp only [Act.put, List.setIfInBounds_toArray, List.set_cons_zero, List.set_cons_succ]
  refine wpAnyH_ready (rs := [3]) (by kernel_rfl) (by simp) ?_
  refine AllReadyH.cons (o := ⟨some 15, _, _, _, _, _⟩) rfl (fun K hK => ?_) AllReadyH.nil
  go_simp
  refine Calls.mono (AD.out s _ ⟨hT0.2.1, hT0.2.2.1, trivial⟩) ?_; rintro e w6 ⟨rfl, hX⟩
  refine hK.out _ _ (((hHeld1.nextX hX sl.out (by simp [n1, n2])).sub (by simp))) (fun hHeld2 => ?_)
  clear hK K
  try clear hb
  try simp only [Act.put, List.setIfInBounds_toArray, List.set_cons_zero, List.set_cons_succ]
  refine wpAnyH_done (by kernel_rfl) ?_ _
  have hHeld := hHeld2
  obtain ⟨⟨kz0, kc0, kf0⟩, ⟨kz1, kc1, kf1⟩, ⟨kz2, kc2, kf2⟩, ⟨kz3, kc3, kf3⟩, _⟩ := hHeld.2
  have hF := hHeld.app (⟨hHeld.1, hX.2⟩ : Keeps w _ w6)
  clear hX hA hHeld
  (try clear hHeld0); (try clear hHeld1); (try clear hHeld2); (try clear hHeld3); (try clear hHeld4); (try clear hHeld5); (try clear hHeld6); (try clear hHeld7); (try clear hHeld8); (try clear hHeld9); (try clear hHeld10); (try clear hHeld11); (try clear hHeld12); (try clear hHeld13); (try clear hT0); (try clear kz0 kc0 kf0); (try clear kz1 kc1 kf1); (try clear kz2 kc2 kf2); (try clear kz3 kc3 kf3); (try clear kz4 kc4 kf4); (try clear kz5 kc5 kf5); (try clear kz6 kc6 kf6); (try clear kz7 kc7 kf7); (try clear kz8 kc8 kf8); (try clear kz9 kc9 kf9); (try clear kz10 kc10 kf10); (try clear kz11 kc11 kf11); (try clear kz12 kc12 kf12); (try clear kz13 kc13 kf13); (try clear t0z0 t0c0 t0f0); (try clear t0z1 t0c1 t0f1)
  obtain ⟨⟨kz0, kc0, kf0⟩, ⟨kz1, kc1, kf1⟩, ⟨kz2, kc2, kf2⟩, ⟨kz3, kc3, kf3⟩, ⟨kz4, kc4, kf4⟩, ⟨kz5, kc5, kf5⟩, _⟩ := hF.2
  go_wp2_with fail
  refine Calls.mono (AE.out s _ ⟨hF.2.2.2.2.2.1, hF.2.2.2.2.2.2.1, trivial⟩) ?_
  rintro e w7 ⟨rfl, hX⟩
  have hG := (hF.sub (L' := [(w.heap.size, 0, .int .i64 a0), (w.heap.size, 1, .int .u64 a1), (w.heap.size + 1, 0, .int .i64 b0), (w.heap.size + 1, 1, .int .u64 b1)]) (by simp)).nextX hX sl.out (by simp [n1, n2])
  clear hF hX
  (try clear hHeld0); (try clear hHeld1); (try clear hHeld2); (try clear hHeld3); (try clear hHeld4); (try clear hHeld5); (try clear hHeld6); (try clear hHeld7); (try clear hHeld8); (try clear hHeld9); (try clear hHeld10); (try clear hHeld11); (try clear hHeld12); (try clear hHeld13); (try clear hT0); (try clear kz0 kc0 kf0); (try clear kz1 kc1 kf1); (try clear kz2 kc2 kf2); (try clear kz3 kc3 kf3); (try clear kz4 kc4 kf4); (try clear kz5 kc5 kf5); (try clear kz6 kc6 kf6); (try clear kz7 kc7 kf7); (try clear kz8 kc8 kf8); (try clear kz9 kc9 kf9); (try clear kz10 kc10 kf10); (try clear kz11 kc11 kf11); (try clear kz12 kc12 kf12); (try clear kz13 kc13 kf13); (try clear t0z0 t0c0 t0f0); (try clear t0z1 t0c1 t0f1)
  obtain ⟨⟨kz0, kc0, kf0⟩, ⟨kz1, kc1, kf1⟩, ⟨kz2, kc2, kf2⟩, ⟨kz3, kc3, kf3⟩, ⟨kz4, kc4, kf4⟩, ⟨kz5, kc5, kf5⟩, _⟩ := hG.2
  go_wp2_with fail
  refine (CO.out _).mono ?_
  rintro e w8 ⟨rfl, hb⟩
  replace hG := hG.next hb
  clear hb
  (try clear hHeld0); (try clear hHeld1); (try clear hHeld2); (try clear hHeld3); (try clear hHeld4); (try clear hHeld5); (try clear hHeld6); (try clear hHeld7); (try clear hHeld8); (try clear hHeld9); (try clear hHeld10); (try clear hHeld11); (try clear hHeld12); (try clear hHeld13); (try clear hT0); (try clear kz0 kc0 kf0); (try clear kz1 kc1 kf1); (try clear kz2 kc2 kf2); (try clear kz3 kc3 kf3); (try clear kz4 kc4 kf4); (try clear kz5 kc5 kf5); (try clear kz6 kc6 kf6); (try clear kz7 kc7 kf7); (try clear kz8 kc8 kf8); (try clear kz9 kc9 kf9); (try clear kz10 kc10 kf10); (try clear kz11 kc11 kf11); (try clear kz12 kc12 kf12); (try clear kz13 kc13 kf13); (try clear t0z0 t0c0 t0f0); (try clear t0z1 t0c1 t0f1)
  obtain ⟨⟨kz0, kc0, kf0⟩, ⟨kz1, kc1, kf1⟩, ⟨kz2, kc2, kf2⟩, ⟨kz3, kc3, kf3⟩, ⟨kz4, kc4, kf4⟩, ⟨kz5, kc5, kf5⟩, _⟩ := hG.2
  go_wp2_with fail
  refine Calls.mono (AF.out s _ ⟨hG.2.2.2.2.2.1, hG.2.2.2.2.2.2.1, trivial⟩) ?_
  rintro e w9 ⟨rfl, hX⟩
  have hH := (hG.sub (L' := [(w.heap.size, 0, .int .i64 a0), (w.heap.size, 1, .int .u64 a1), (w.heap.size + 1, 0, .int .i64 b0), (w.heap.size + 1, 1, .int .u64 b1)]) (by simp)).nextX hX sl.out (by simp [n1, n2])
  clear hG hX
  (try clear hHeld0); (try clear hHeld1); (try clear hHeld2); (try clear hHeld3); (try clear hHeld4); (try clear hHeld5); (try clear hHeld6); (try clear hHeld7); (try clear hHeld8); (try clear hHeld9); (try clear hHeld10); (try clear hHeld11); (try clear hHeld12); (try clear hHeld13); (try clear hT0); (try clear kz0 kc0 kf0); (try clear kz1 kc1 kf1); (try clear kz2 kc2 kf2); (try clear kz3 kc3 kf3); (try clear kz4 kc4 kf4); (try clear kz5 kc5 kf5); (try clear kz6 kc6 kf6); (try clear kz7 kc7 kf7); (try clear kz8 kc8 kf8); (try clear kz9 kc9 kf9); (try clear kz10 kc10 kf10); (try clear kz11 kc11 kf11); (try clear kz12 kc12 kf12); (try clear kz13 kc13 kf13); (try clear t0z0 t0c0 t0f0); (try clear t0z1 t0c1 t0f1)
  obtain ⟨⟨kz0, kc0, kf0⟩, ⟨kz1, kc1, kf1⟩, ⟨kz2, kc2, kf2⟩, ⟨kz3, kc3, kf3⟩, ⟨kz4, kc4, kf4⟩, ⟨kz5, kc5, kf5⟩, _⟩ := hH.2
  go_wp2_with fail
  refine (IN.out _).mono ?_
  rintro e w10 ⟨rfl, hb⟩
  replace hH := hH.next hb
  clear hb
  go_wp2_with fail
  go_ret
  exact ⟨rfl, hH.1⟩
end Go.Proofs.Ytnacdofidmgfmaa
