/-
  Layer 11: the law's wakes, and what two rows come to together. Conditions: those written at each fact.
-/
import Derived.Maps.RangeWalk
import Derived.Test.YtgmflnfdmcphnaaGreatSgS
import Derived.Test.YtgmflnfdmcphnaaGreatSgO
namespace Go.Proofs.YtgmflnfdmcphnaaGreat.P11
open Go.RowKit Go.Shelf Go.Proofs.YtgmflnfdmcphnaaGreat.P7

set_option maxRecDepth 100000 in
set_option maxHeartbeats 2000000 in
theorem together_walk (c1 l1 h1 x0 x1 c2 l2 h2 y0 y1 c z0 z1 : Int) (hc : wrap64 (c1 + c2) = c) (w : World) (AD : ∀ W, Calls Tryz.prog 37 #[wideV x0 x1, wideV y0 y1] W (Ret W (.tuple #[wideV z0 z1, .int .i64 0]))) :
    Calls Tryz.prog 34 #[fiveV c1 l1 h1 x0 x1, fiveV c2 l2 h2 y0 y1] w (Ret w (.tuple #[fiveV c (min l1 l2) (max h1 h2) z0 z1, .bool true])) := by
  replace AD := Lib.hid AD
  have hK : Keeps w [(w.heap.size, 0, .int .i64 c1), (w.heap.size, 1, .int .i64 l1), (w.heap.size, 2, .int .i64 h1), (w.heap.size, 3, .int .i64 x0), (w.heap.size, 4, .int .u64 x1), (w.heap.size + 1, 0, .int .i64 c2), (w.heap.size + 1, 1, .int .i64 l2), (w.heap.size + 1, 2, .int .i64 h2), (w.heap.size + 1, 3, .int .i64 y0), (w.heap.size + 1, 4, .int .u64 y1), (w.heap.size + 2, 0, .int .i64 0), (w.heap.size + 2, 1, .int .i64 0), (w.heap.size + 2, 2, .int .i64 0), (w.heap.size + 2, 3, .int .i64 0), (w.heap.size + 2, 4, .int .u64 0)]
      (((w.alloc (.cells #[.int .i64 c1, .int .i64 l1, .int .i64 h1, .int .i64 x0, .int .u64 x1] 59)).alloc (.cells #[.int .i64 c2, .int .i64 l2, .int .i64 h2, .int .i64 y0, .int .u64 y1] 59)).alloc (.cells #[.int .i64 0, .int .i64 0, .int .i64 0, .int .i64 0, .int .u64 0] 59)) := by
    refine ⟨by go_grown, ?_⟩
    simp [Cells, go_sem]
  go_enter Tryz.func34, Tryz.ntmps34
  go_wp2_with fail
  refine (AD.out _).mono ?_
  rintro e w1 ⟨rfl, hb⟩
  replace hK := hK.next hb
  clear hb AD
  have hN : Keeps w [(w1.heap.size, 0, .int .i64 z0), (w1.heap.size, 1, .int .u64 z1)] (w1.alloc (.cells #[.int .i64 z0, .int .u64 z1] 57)) := newK2 (hK.alloc _)
  have hlz : w.heap.size + 2 < w1.heap.size := by obtain ⟨_, _, _, _, _, _, _, _, _, _, _, ⟨h1, _, _⟩, _⟩ := hK; exact h1
  replace hK := hN.app (hK.alloc (.cells #[.int .i64 z0, .int .u64 z1] 57))
  clear hN
  go_upto_region 2 with (fail)
  generalize w1.alloc (.cells #[.int .i64 z0, .int .u64 z1] 57) = w3 at *
  generalize w1.heap.size = g at *
  obtain ⟨⟨pz0, pc0, pf0⟩, ⟨pz1, pc1, pf1⟩, ⟨kz0, kc0, kf0⟩, ⟨kz1, kc1, kf1⟩, ⟨kz2, kc2, kf2⟩, _, _, ⟨qz0, qc0, qf0⟩, ⟨qz1, qc1, qf1⟩, ⟨qz2, qc2, qf2⟩, _, _, ⟨rz0, rc0, rf0⟩, ⟨rz1, rc1, rf1⟩, ⟨rz2, rc2, rf2⟩, ⟨rz3, rc3, rf3⟩, ⟨rz4, rc4, rf4⟩, _⟩ := hK.2
  have hB := hK.1
  obtain ⟨d0, d1, d2, d3, d4⟩ := set5 (u0 := .int .i64 c) (u1 := .int .i64 (min l1 l2)) (u2 := .int .i64 (max h1 h2)) (u3 := .int .i64 z0) (u4 := .int .u64 z1) rc0 rc1 rc2 rc3 rc4
  have hB2 : ∀ u0 u1 u2 u3 u4, Below w.heap.size w (((((w3.setCell ⟨w.heap.size + 2, 0, none⟩ u0).setCell ⟨w.heap.size + 2, 1, none⟩ u1).setCell ⟨w.heap.size + 2, 2, none⟩ u2).setCell ⟨w.heap.size + 2, 3, none⟩ u3).setCell ⟨w.heap.size + 2, 4, none⟩ u4) := fun _ _ _ _ _ => ((((hB.setCell (by simp) _).setCell (by simp) _).setCell (by simp) _).setCell (by simp) _).setCell (by simp) _
  replace hB2 := Lib.hid hB2
  clear hK hB
  go_wp2_with fail
  refine bodyPost_ret (v := .tuple #[fiveV c (min l1 l2) (max h1 h2) z0 z1, .bool true]) (by simp [results, Tryz.results34, go_sem, d0, d1, d2, d3, d4]) rfl ?_
  exact ⟨rfl, hB2.out _ _ _ _ _⟩
/-- Two rows of numbers that may be told, together. -/
theorem together_any (l m : List Int) (hl : l ≠ []) (hm : m ≠ []) (hn : l.length ≤ 300) (hn2 : m.length ≤ 300) (bl : ∀ v ∈ l, backB v = true) (bm : ∀ v ∈ m, backB v = true) (w : World) :
    Calls Tryz.prog 34 #[partL l, partL m] w (Ret w (.tuple #[partL (l ++ m), .bool true])) := by
  have hb : ∀ l : List Int, l.length ≤ 300 → (∀ v ∈ l, backB v = true) → -(300 * 2305844108725321728) ≤ sumL l ∧ sumL l ≤ 300 * 2305844108725321728 := fun l h1 h2 => by
    have h3 := sumL_bound (l := l) (M := 2305844108725321728) (fun v hv => (backB_iff v).1 (h2 v hv))
    have h4 : (l.length : Int) * 2305844108725321728 ≤ 300 * 2305844108725321728 := Int.mul_le_mul_of_nonneg_right (by omega) (by omega)
    omega
  have b1 := hb l hn bl
  have b2 := hb m hn2 bm
  have := together_walk l.length (minL l) (maxL l) (rhi (sumL l)) (rlo (sumL l)) m.length (minL m) (maxL m) (rhi (sumL m)) (rlo (sumL m)) (((l ++ m).length : Nat) : Int) (rhi (sumL (l ++ m))) (rlo (sumL (l ++ m)))
    (by rw [i64_keeps (by omega) (by omega), List.length_append]; omega) w (fun W => by
      rw [sumL_app]
      exact add_fits _ _ (by unfold Fits; omega) (by unfold Fits; omega) (by unfold Fits; omega) W)
  rw [← minL_app hl hm, ← maxL_app hl hm] at this
  exact this
def wakeS : Sg := ⟨2, [⟨10, 2, 4⟩], 5, 0, 1, 2, [], 3⟩
theorem wake_ok : segB wakeS = true := by decide +kernel
theorem wake_kind : kindK 5 0 1 2 = 2 := by decide +kernel
theorem wake_part : partsOf wakeS 11 100 = [6, 7, 8] ∧ partC wakeS 11 100 = 0 := by decide +kernel
theorem wake_at : atN wakeS 14 = 7 ∧ atC wakeS 14 = 0 ∧ atN wakeS 13 = 0 ∧ atC wakeS 13 = 4 := by decide +kernel
set_option maxRecDepth 100000 in
set_option maxHeartbeats 4000000 in
theorem wakes_any (w : World) : Calls Tryz.prog 11 #[] w (Ret w (.bool true)) := by
  have e1 : madeS wakeS = wakeS := by unfold madeS; rw [wake_ok]; rfl
  have e2 : madeC wakeS = 0 := by unfold madeC; rw [wake_ok]; rfl
  have OF := fun v W (h : ReadsR W v [⟨10, 2, 4⟩]) => ofM_any [⟨10, 2, 4⟩] 5 0 1 2 3 (by simp) v W h
  rw [wake_kind] at OF
  have OF2 : Hid (∀ v W, ReadsR W v [⟨10, 2, 4⟩] → Calls Tryz.prog 22 #[v, lnV 5 0 1 2, .int .i64 3] W (fun e w' => ∃ A1 n1 c1 A2 n2 c2, e = .returned (.tuple #[sgV 2 (.slice A1 n1 c1) 5 0 1 2 (.slice A2 n2 c2) 3, .int .i64 0]) ∧ Below W.heap.size W w' ∧ Own2 w' W.heap.size wakeS (.slice A1 n1 c1) (.slice A2 n2 c2))) := Lib.hid (fun v W h => (OF v W h).mono (fun e w' hm => by
    obtain ⟨v2, u2, he, hb, ho⟩ := hm
    rw [show (⟨2, [⟨10, 2, 4⟩], 5, 0, 1, 2, [], 3⟩ : Sg) = wakeS from rfl, e1, e2] at he
    rw [show (⟨2, [⟨10, 2, 4⟩], 5, 0, 1, 2, [], 3⟩ : Sg) = wakeS from rfl, e1] at ho
    obtain ⟨A1, n1, c1, rfl⟩ := own_sl ho.runs
    obtain ⟨A2, n2, c2, rfl⟩ := own_sl ho.raws
    exact ⟨A1, n1, c1, A2, n2, c2, he, hb, ho⟩))
  have PA : Hid (∀ v u W, ReadsR W v wakeS.R → Reads .i64 W u wakeS.V → Calls Tryz.prog 28 #[sgV 2 v 5 0 1 2 u 3, .int .i64 11, .int .i64 100] W (Ret W (.tuple #[fiveV 3 6 8 (rhi 21) (rlo 21), .int .i64 0]))) := Lib.hid (fun v u W h hu => by
    have := part_any wakeS (by decide) (by decide) 11 100 v u W h hu
    rw [wake_part.1, wake_part.2] at this
    exact this)
  have A1 : Hid (∀ v u W, ReadsR W v wakeS.R → Reads .i64 W u wakeS.V → Calls Tryz.prog 25 #[sgV 2 v 5 0 1 2 u 3, .int .i64 14] W (Ret W (.tuple #[.int .i64 7, .int .i64 0]))) := Lib.hid (fun v u W h hu => by
    have := at_seg wakeS (by decide) (by decide) 14 v u W h hu
    rwa [wake_at.1, wake_at.2.1] at this)
  have A2 : Hid (∀ v u W, ReadsR W v wakeS.R → Reads .i64 W u wakeS.V → Calls Tryz.prog 25 #[sgV 2 v 5 0 1 2 u 3, .int .i64 13] W (Ret W (.tuple #[.int .i64 0, .int .i64 4]))) := Lib.hid (fun v u W h hu => by
    have := at_seg wakeS (by decide) (by decide) 13 v u W h hu
    rwa [wake_at.2.2.1, wake_at.2.2.2] at this)
  have WO := Lib.hid (fun W => of_any 21 (by unfold I64; omega) W)
  obtain ⟨z0, hz0⟩ : ∃ x, x = rhi 21 := ⟨_, rfl⟩
  obtain ⟨z1, hz1⟩ : ∃ x, x = rlo 21 := ⟨_, rfl⟩
  rw [← hz0, ← hz1] at PA WO
  have R1 : Hid (ReadsR (w.alloc (.cells #[.int .i64 10, .int .i64 2, .int .i64 4] 44)) (.slice (some ⟨w.heap.size, 0, none⟩) 1 1) [⟨10, 2, 4⟩]) := Lib.hid (by
    refine ⟨_, _, rfl, Nat.le_refl _, fun i r hi => ⟨w.heap.size, 0, rfl, by simp, ?_⟩⟩
    cases i with
    | zero => simp at hi; subst hi; simp [go_sem]
    | succ i => simp at hi)
  clear OF e1 e2 hz0 hz1
  go_enter Tryz.func11, Tryz.ntmps11
  go_wp2_with fail
  have hb0 := below_alloc w (.cells #[.int .i64 10, .int .i64 2, .int .i64 4] 44)
  refine (OF2.out _ _ R1.out).mono ?_
  rintro e w1 ⟨B1, n1, c1, B2, n2, c2, rfl, hb, ho⟩
  have hB1 := under hb0 hb
  have HO := Lib.hid ho
  clear hb hb0 ho R1 OF2
  have hK := new_seg hB1 27 2 (.slice B1 n1 c1) 5 0 1 2 (.slice B2 n2 c2) 3
  have ho := HO.out.below (below_alloc w1 (sgO 27 2 (.slice B1 n1 c1) 5 0 1 2 (.slice B2 n2 c2) 3))
  clear HO hB1
  go_wp2_with fail
  refine (PA.out _ _ _ ho.readsR ho.reads).mono ?_
  rintro e w2 ⟨rfl, hb⟩
  replace hK := hK.next hb
  replace ho := ho.below hb
  clear hb
  generalize w1.heap.size = g at *
  have hN : Keeps w [(w2.heap.size, 0, .int .i64 3), (w2.heap.size, 1, .int .i64 6), (w2.heap.size, 2, .int .i64 8), (w2.heap.size, 3, .int .i64 z0), (w2.heap.size, 4, .int .u64 z1)] (w2.alloc (.cells #[.int .i64 3, .int .i64 6, .int .i64 8, .int .i64 z0, .int .u64 z1] 59)) := ⟨(hK.alloc _).1, by simp [Cells, go_sem]⟩
  replace hN := (hK.alloc (.cells #[.int .i64 3, .int .i64 6, .int .i64 8, .int .i64 z0, .int .u64 z1] 59)).app hN
  replace ho := ho.below (below_alloc w2 (.cells #[.int .i64 3, .int .i64 6, .int .i64 8, .int .i64 z0, .int .u64 z1] 59))
  clear hK PA
  go_upto_region 3 with (fail)
  generalize w2.alloc (.cells #[.int .i64 3, .int .i64 6, .int .i64 8, .int .i64 z0, .int .u64 z1] 59) = w3 at *
  generalize w2.heap.size = g2 at *
  obtain ⟨⟨kz0, kc0, kf0⟩, ⟨kz1, kc1, kf1⟩, ⟨kz2, kc2, kf2⟩, ⟨kz3, kc3, kf3⟩, ⟨kz4, kc4, kf4⟩, ⟨kz5, kc5, kf5⟩, ⟨kz6, kc6, kf6⟩, ⟨kz7, kc7, kf7⟩, ⟨kz8, kc8, kf8⟩, ⟨kz9, kc9, kf9⟩, ⟨kz10, kc10, kf10⟩, ⟨kz11, kc11, kf11⟩, ⟨kz12, kc12, kf12⟩, _⟩ := hN.2
  go_wp2_with fail
  refine (A1.out _ _ _ ho.readsR ho.reads).mono ?_
  rintro e w4 ⟨rfl, hb⟩
  replace hN := hN.next hb
  replace ho := ho.below hb
  clear hb A1
  (try clear hHeld0); (try clear hHeld1); (try clear hHeld2); (try clear hHeld3); (try clear hHeld4); (try clear hHeld5); (try clear hHeld6); (try clear hHeld7); (try clear hHeld8); (try clear hHeld9); (try clear hHeld10); (try clear hHeld11); (try clear hHeld12); (try clear hHeld13); (try clear hT0); (try clear kz0 kc0 kf0); (try clear kz1 kc1 kf1); (try clear kz2 kc2 kf2); (try clear kz3 kc3 kf3); (try clear kz4 kc4 kf4); (try clear kz5 kc5 kf5); (try clear kz6 kc6 kf6); (try clear kz7 kc7 kf7); (try clear kz8 kc8 kf8); (try clear kz9 kc9 kf9); (try clear kz10 kc10 kf10); (try clear kz11 kc11 kf11); (try clear kz12 kc12 kf12); (try clear kz13 kc13 kf13); (try clear t0z0 t0c0 t0f0); (try clear t0z1 t0c1 t0f1)
  obtain ⟨⟨kz0, kc0, kf0⟩, ⟨kz1, kc1, kf1⟩, ⟨kz2, kc2, kf2⟩, ⟨kz3, kc3, kf3⟩, ⟨kz4, kc4, kf4⟩, ⟨kz5, kc5, kf5⟩, ⟨kz6, kc6, kf6⟩, ⟨kz7, kc7, kf7⟩, ⟨kz8, kc8, kf8⟩, ⟨kz9, kc9, kf9⟩, ⟨kz10, kc10, kf10⟩, ⟨kz11, kc11, kf11⟩, ⟨kz12, kc12, kf12⟩, _⟩ := hN.2
  go_wp2_with fail
  refine (A2.out _ _ _ ho.readsR ho.reads).mono ?_
  rintro e w5 ⟨rfl, hb⟩
  replace hN := hN.next hb
  clear hb ho A2
  (try clear hHeld0); (try clear hHeld1); (try clear hHeld2); (try clear hHeld3); (try clear hHeld4); (try clear hHeld5); (try clear hHeld6); (try clear hHeld7); (try clear hHeld8); (try clear hHeld9); (try clear hHeld10); (try clear hHeld11); (try clear hHeld12); (try clear hHeld13); (try clear hT0); (try clear kz0 kc0 kf0); (try clear kz1 kc1 kf1); (try clear kz2 kc2 kf2); (try clear kz3 kc3 kf3); (try clear kz4 kc4 kf4); (try clear kz5 kc5 kf5); (try clear kz6 kc6 kf6); (try clear kz7 kc7 kf7); (try clear kz8 kc8 kf8); (try clear kz9 kc9 kf9); (try clear kz10 kc10 kf10); (try clear kz11 kc11 kf11); (try clear kz12 kc12 kf12); (try clear kz13 kc13 kf13); (try clear t0z0 t0c0 t0f0); (try clear t0z1 t0c1 t0f1)
  go_upto_region 5 with (fail)
  refine region_keeps (w0 := w) (L := [(g, 0, .int .i64 2), (g, 1, .slice B1 n1 c1), (g, 2, .int .i64 5), (g, 3, .int .i64 0), (g, 4, .int .i64 1), (g, 5, .int .i64 2), (g, 6, .slice B2 n2 c2), (g, 7, .int .i64 3), (g2, 0, .int .i64 3), (g2, 1, .int .i64 6), (g2, 2, .int .i64 8), (g2, 3, .int .i64 z0), (g2, 4, .int .u64 z1)]) (by kernel_rfl) hN (fun hHeld0 => ?_)
  refine wpAnyH_take (i := 0) (oi := ⟨some 31, _, _, _, _, _⟩) (v := ?_) rfl (by kernel_rfl) (by kernel_rfl) (by kernel_rfl) (fun _ _ _ h => h) (Or.inl ⟨by rfl, ?_⟩) (by assumption) ?_
  rotate_left
  · intro wq hSw; go_simp; (try with_reducible rfl)
  try go_frame
  refine wpAnyH_take (i := 1) (oi := ⟨some 32, _, _, _, _, _⟩) (v := ?_) rfl (by kernel_rfl) (by kernel_rfl) (by kernel_rfl) (fun _ _ _ h => h) (Or.inl ⟨by rfl, ?_⟩) (by assumption) ?_
  rotate_left
  · intro wq hSw; go_simp; (try with_reducible rfl)
  try go_frame
  refine wpAnyH_take (i := 2) (oi := ⟨some 33, _, _, _, _, _⟩) (v := ?_) rfl (by kernel_rfl) (by kernel_rfl) (by kernel_rfl) (fun _ _ _ h => h) (Or.inl ⟨by rfl, ?_⟩) (by assumption) ?_
  rotate_left
  · intro wq hSw; go_simp; (try with_reducible rfl)
  try go_frame
  refine wpAnyH_take (i := 3) (oi := ⟨some 34, _, _, _, _, _⟩) (v := ?_) rfl (by kernel_rfl) (by kernel_rfl) (by kernel_rfl) (fun _ _ _ h => h) (Or.inl ⟨by rfl, ?_⟩) (by assumption) ?_
  rotate_left
  · intro wq hSw; go_simp; (try with_reducible rfl)
  try go_frame
  refine wpAnyH_take (i := 4) (oi := ⟨some 35, _, _, _, _, _⟩) (v := ?_) rfl (by kernel_rfl) (by kernel_rfl) (by kernel_rfl) (fun _ _ _ h => h) (Or.inl ⟨by rfl, ?_⟩) (by assumption) ?_
  rotate_left
  · intro wq hSw; obtain ⟨⟨qz0, qc0, qf0⟩, ⟨qz1, qc1, qf1⟩, ⟨qz2, qc2, qf2⟩, ⟨qz3, qc3, qf3⟩, ⟨qz4, qc4, qf4⟩, ⟨qz5, qc5, qf5⟩, ⟨qz6, qc6, qf6⟩, ⟨qz7, qc7, qf7⟩, ⟨qz8, qc8, qf8⟩, ⟨qz9, qc9, qf9⟩, ⟨qz10, qc10, qf10⟩, ⟨qz11, qc11, qf11⟩, ⟨qz12, qc12, qf12⟩, _⟩ := hSw.2; go_simp; (try with_reducible rfl)
  try go_frame
  refine wpAnyH_take (i := 5) (oi := ⟨some 36, _, _, _, _, _⟩) (v := ?_) rfl (by kernel_rfl) (by kernel_rfl) (by kernel_rfl) (fun _ _ _ h => h) (Or.inl ⟨by rfl, ?_⟩) (by assumption) ?_
  rotate_left
  · intro wq hSw; go_simp; (try with_reducible rfl)
  try go_frame
  refine wpAnyH_take (i := 6) (oi := ⟨some 37, _, _, _, _, _⟩) (v := ?_) rfl (by kernel_rfl) (by kernel_rfl) (by kernel_rfl) (fun _ _ _ h => h) (Or.inl ⟨by rfl, ?_⟩) (by assumption) ?_
  rotate_left
  · intro wq hSw; go_simp; (try with_reducible rfl)
  try go_frame
  refine wpAnyH_take (i := 7) (oi := ⟨some 38, _, _, _, _, _⟩) (v := ?_) rfl (by kernel_rfl) (by kernel_rfl) (by kernel_rfl) (fun _ _ _ h => h) (Or.inl ⟨by rfl, ?_⟩) (by assumption) ?_
  rotate_left
  · intro wq hSw; go_simp; (try with_reducible rfl)
  try go_frame
  refine wpAnyH_take (i := 8) (oi := ⟨some 39, _, _, _, _, _⟩) (v := ?_) rfl (by kernel_rfl) (by kernel_rfl) (by kernel_rfl) (fun _ _ _ h => h) (Or.inl ⟨by rfl, ?_⟩) (by assumption) ?_
  rotate_left
  · intro wq hSw; go_simp; (try with_reducible rfl)
  try go_frame
  refine wpAnyH_take (i := 9) (oi := ⟨some 40, _, _, _, _, _⟩) (v := ?_) rfl (by kernel_rfl) (by kernel_rfl) (by kernel_rfl) (fun _ _ _ h => h) (Or.inl ⟨by rfl, ?_⟩) (by assumption) ?_
  rotate_left
  · intro wq hSw; go_simp; (try with_reducible rfl)
  try go_frame
  refine wpAnyH_take (i := 10) (oi := ⟨some 41, _, _, _, _, _⟩) (v := ?_) rfl (by kernel_rfl) (by kernel_rfl) (by kernel_rfl) (fun _ _ _ h => h) (Or.inl ⟨by rfl, ?_⟩) (by assumption) ?_
  rotate_left
  · intro wq hSw; go_simp; (try with_reducible rfl)
  try go_frame
  refine wpAnyH_take (i := 11) (oi := ⟨some 42, _, _, _, _, _⟩) (v := ?_) rfl (by kernel_rfl) (by kernel_rfl) (by kernel_rfl) (fun _ _ _ h => h) (Or.inl ⟨by rfl, ?_⟩) (by assumption) ?_
  rotate_left
  · intro wq hSw; go_simp; (try with_reducible rfl)
  try go_frame
  refine wpAnyH_take (i := 12) (oi := ⟨some 43, _, _, _, _, _⟩) (v := ?_) rfl (by kernel_rfl) (by kernel_rfl) (by kernel_rfl) (fun _ _ _ h => h) (Or.inl ⟨by rfl, ?_⟩) (by assumption) ?_
  rotate_left
  · intro wq hSw; obtain ⟨⟨qz0, qc0, qf0⟩, ⟨qz1, qc1, qf1⟩, ⟨qz2, qc2, qf2⟩, ⟨qz3, qc3, qf3⟩, ⟨qz4, qc4, qf4⟩, ⟨qz5, qc5, qf5⟩, ⟨qz6, qc6, qf6⟩, ⟨qz7, qc7, qf7⟩, ⟨qz8, qc8, qf8⟩, ⟨qz9, qc9, qf9⟩, ⟨qz10, qc10, qf10⟩, ⟨qz11, qc11, qf11⟩, ⟨qz12, qc12, qf12⟩, _⟩ := hSw.2; go_simp; (try with_reducible rfl)
  try go_frame
  refine wpAnyH_ready (rs := [13]) (by kernel_rfl) (by simp) ?_
  refine AllReadyH.cons (o := ⟨some 44, _, _, _, _, _⟩) rfl (fun K hK => ?_) AllReadyH.nil
  go_simp
  ((with_reducible refine (WO.out _).mono ?_); rintro e w6 ⟨rfl, hb⟩)
  refine hK.out _ _ (hHeld0.next hb) (fun hHeld1 => ?_)
  clear hK K
  try clear hb
  try go_frame
  refine wpAnyH_take (i := 14) (oi := ⟨some 45, _, _, _, _, _⟩) (v := ?_) rfl (by kernel_rfl) (by kernel_rfl) (by kernel_rfl) (fun _ _ _ h => h) (Or.inl ⟨by rfl, ?_⟩) (by assumption) ?_
  rotate_left
  · intro wq hSw; go_simp; (try with_reducible rfl)
  try go_frame
  refine wpAnyH_take (i := 15) (oi := ⟨some 46, _, _, _, _, _⟩) (v := ?_) rfl (by kernel_rfl) (by kernel_rfl) (by kernel_rfl) (fun _ _ _ h => h) (Or.inl ⟨by rfl, ?_⟩) (by assumption) ?_
  rotate_left
  · intro wq hSw; go_simp; (try with_reducible rfl)
  try go_frame
  refine wpAnyH_take (i := 16) (oi := ⟨some 47, _, _, _, _, _⟩) (v := ?_) rfl (by kernel_rfl) (by kernel_rfl) (by kernel_rfl) (fun _ _ _ h => h) (Or.inl ⟨by rfl, ?_⟩) (by assumption) ?_
  rotate_left
  · intro wq hSw; go_simp; (try with_reducible rfl)
  try go_frame
  refine wpAnyH_take (i := 17) (oi := ⟨some 48, _, _, _, _, _⟩) (v := ?_) rfl (by kernel_rfl) (by kernel_rfl) (by kernel_rfl) (fun _ _ _ h => h) (Or.inl ⟨by rfl, ?_⟩) (by assumption) ?_
  rotate_left
  · intro wq hSw; go_simp; (try with_reducible rfl)
  try go_frame
  refine wpAnyH_take (i := 18) (oi := ⟨some 49, _, _, _, _, _⟩) (v := ?_) rfl (by kernel_rfl) (by kernel_rfl) (by kernel_rfl) (fun _ _ _ h => h) (Or.inl ⟨by rfl, ?_⟩) (by assumption) ?_
  rotate_left
  · intro wq hSw; go_simp; (try with_reducible rfl)
  try go_frame
  refine wpAnyH_take (i := 19) (oi := ⟨some 50, _, _, _, _, _⟩) (v := ?_) rfl (by kernel_rfl) (by kernel_rfl) (by kernel_rfl) (fun _ _ _ h => h) (Or.inl ⟨by rfl, ?_⟩) (by assumption) ?_
  rotate_left
  · intro wq hSw; go_simp; (try with_reducible rfl)
  try go_frame
  refine wpAnyH_take (i := 20) (oi := ⟨some 51, _, _, _, _, _⟩) (v := ?_) rfl (by kernel_rfl) (by kernel_rfl) (by kernel_rfl) (fun _ _ _ h => h) (Or.inl ⟨by rfl, ?_⟩) (by assumption) ?_
  rotate_left
  · intro wq hSw; go_simp; (try with_reducible rfl)
  try go_frame
  refine wpAnyH_take (i := 21) (oi := ⟨some 52, _, _, _, _, _⟩) (v := ?_) rfl (by kernel_rfl) (by kernel_rfl) (by kernel_rfl) (fun _ _ _ h => h) (Or.inl ⟨by rfl, ?_⟩) (by assumption) ?_
  rotate_left
  · intro wq hSw; go_simp; (try with_reducible rfl)
  try go_frame
  refine wpAnyH_take (i := 22) (oi := ⟨some 53, _, _, _, _, _⟩) (v := ?_) rfl (by kernel_rfl) (by kernel_rfl) (by kernel_rfl) (fun _ _ _ h => h) (Or.inl ⟨by rfl, ?_⟩) (by assumption) ?_
  rotate_left
  · intro wq hSw; go_simp; (try with_reducible rfl)
  try go_frame
  refine wpAnyH_take (i := 23) (oi := ⟨some 54, _, _, _, _, _⟩) (v := ?_) rfl (by kernel_rfl) (by kernel_rfl) (by kernel_rfl) (fun _ _ _ h => h) (Or.inl ⟨by rfl, ?_⟩) (by assumption) ?_
  rotate_left
  · intro wq hSw; go_simp; (try with_reducible rfl)
  try go_frame
  refine wpAnyH_take (i := 24) (oi := ⟨some 55, _, _, _, _, _⟩) (v := ?_) rfl (by kernel_rfl) (by kernel_rfl) (by kernel_rfl) (fun _ _ _ h => h) (Or.inl ⟨by rfl, ?_⟩) (by assumption) ?_
  rotate_left
  · intro wq hSw; go_simp; (try with_reducible rfl)
  try go_frame
  refine wpAnyH_take (i := 25) (oi := ⟨some 56, _, _, _, _, _⟩) (v := ?_) rfl (by kernel_rfl) (by kernel_rfl) (by kernel_rfl) (fun _ _ _ h => h) (Or.inl ⟨by rfl, ?_⟩) (by assumption) ?_
  rotate_left
  · intro wq hSw; go_simp; (try with_reducible rfl)
  try go_frame
  refine wpAnyH_take (i := 26) (oi := ⟨some 57, _, _, _, _, _⟩) (v := ?_) rfl (by kernel_rfl) (by kernel_rfl) (by kernel_rfl) (fun _ _ _ h => h) (Or.inl ⟨by rfl, ?_⟩) (by assumption) ?_
  rotate_left
  · intro wq hSw; go_simp; (try with_reducible rfl)
  try go_frame
  refine wpAnyH_take (i := 27) (oi := ⟨some 58, _, _, _, _, _⟩) (v := ?_) rfl (by kernel_rfl) (by kernel_rfl) (by kernel_rfl) (fun _ _ _ h => h) (Or.inl ⟨by rfl, ?_⟩) (by assumption) ?_
  rotate_left
  · intro wq hSw; go_simp; (try with_reducible rfl)
  try go_frame
  refine wpAnyH_take (i := 28) (oi := ⟨some 59, _, _, _, _, _⟩) (v := ?_) rfl (by kernel_rfl) (by kernel_rfl) (by kernel_rfl) (fun _ _ _ h => h) (Or.inl ⟨by rfl, ?_⟩) (by assumption) ?_
  rotate_left
  · intro wq hSw; go_simp; (try with_reducible rfl)
  try go_frame
  refine wpAnyH_take (i := 29) (oi := ⟨some 0, _, _, _, _, _⟩) (v := ?_) rfl (by kernel_rfl) (by kernel_rfl) (by kernel_rfl) (fun _ _ _ h => h) (Or.inl ⟨by rfl, ?_⟩) (by assumption) ?_
  rotate_left
  · intro wq hSw; go_simp; (try with_reducible rfl)
  try go_frame
  refine wpAnyH_done (by kernel_rfl) ?_ _
  have hHeld := hHeld1
  obtain ⟨⟨kz0, kc0, kf0⟩, ⟨kz1, kc1, kf1⟩, ⟨kz2, kc2, kf2⟩, ⟨kz3, kc3, kf3⟩, ⟨kz4, kc4, kf4⟩, ⟨kz5, kc5, kf5⟩, ⟨kz6, kc6, kf6⟩, ⟨kz7, kc7, kf7⟩, ⟨kz8, kc8, kf8⟩, ⟨kz9, kc9, kf9⟩, ⟨kz10, kc10, kf10⟩, ⟨kz11, kc11, kf11⟩, ⟨kz12, kc12, kf12⟩, _⟩ := hHeld.2
  all_goals
    have hB := hHeld.1
    clear hHeld hN
    (try clear hHeld0); (try clear hHeld1); (try clear hHeld2); (try clear hHeld3); (try clear hHeld4); (try clear hHeld5); (try clear hHeld6); (try clear hHeld7); (try clear hHeld8); (try clear hHeld9); (try clear hHeld10); (try clear hHeld11); (try clear hHeld12); (try clear hHeld13); (try clear hT0); (try clear kz0 kc0 kf0); (try clear kz1 kc1 kf1); (try clear kz2 kc2 kf2); (try clear kz3 kc3 kf3); (try clear kz4 kc4 kf4); (try clear kz5 kc5 kf5); (try clear kz6 kc6 kf6); (try clear kz7 kc7 kf7); (try clear kz8 kc8 kf8); (try clear kz9 kc9 kf9); (try clear kz10 kc10 kf10); (try clear kz11 kc11 kf11); (try clear kz12 kc12 kf12); (try clear kz13 kc13 kf13); (try clear t0z0 t0c0 t0f0); (try clear t0z1 t0c1 t0f1)
    go_wp2_with fail
    go_ret
    exact ⟨rfl, hB⟩
end Go.Proofs.YtgmflnfdmcphnaaGreat.P11
