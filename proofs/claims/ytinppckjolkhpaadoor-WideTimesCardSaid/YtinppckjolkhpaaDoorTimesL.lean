/-
  The walk of the law WideTimes. Conditions: the words are of 64 bits; the table of powers of ten holds what its initialiser lays.
-/
import Derived.Test.YtinppckjolkhpaaDoorWakes
import Derived.Test.YtinppckjolkhpaaDoorIs
import Derived.Test.YtinppckjolkhpaaDoorWideI
import Derived.Test.YtinppckjolkhpaaDoorWideK
namespace Go.Proofs.YtinppckjolkhpaaDoor
open Go.RowKit

set_option maxRecDepth 100000 in
set_option maxHeartbeats 16000000 in
theorem times_law (mm nn ah al : Int) (j1 : I64 mm) (j2 : I64 nn) (i1 : I64 ah) (k1 : U64 al) (w : World) (htab : Tab w) : Calls Tryd.prog 4 #[.int .i64 mm, .int .i64 nn, wideV ah al] w (Ret w (.bool true)) := by
  have WK := Lib.hid (fun W (k : Below w.heap.size w W) => wakes_any W (htab.on k))
  have SC := fun W => scale_any ah al nn i1 k1 j2 W
  have OW := fun W => of_any mm j1 W
  have MU := fun W => mul_any mm nn j1 j2 W
  have l1 : (sizeL (val ah al).natAbs).length ≤ 130 := sizeL_length 130 _ (by have := fits_val i1 k1; unfold Fits at this; omega)
  have l2 : (sizeL mm.natAbs).length ≤ 64 := sizeL_length 64 _ (by unfold I64 at j1; omega)
  have l3 : (sizeL nn.natAbs).length ≤ 64 := sizeL_length 64 _ (by unfold I64 at j2; omega)
  have OA := fun W => refOf_any ah al i1.1 i1.2 k1.1 k1.2 W
  rw [show ah * 18446744073709551616 + al = val ah al by unfold val; rfl] at OA
  have IM := Lib.hid (fun W => intZ_any mm j1.1 j1.2 W)
  have IN := Lib.hid (fun W => intZ_any nn j2.1 j2.2 W)
  generalize val ah al = x at *
  have M1 := Lib.hid (fun u u' W k k' => mulZ_any mm nn (by omega) u u' W k k')
  have M2 := Lib.hid (fun u u' W k k' => mulZ_any x nn (by omega) u u' W k k')
  have s1 := size_mul mm.natAbs nn.natAbs
  have s2 := size_mul x.natAbs nn.natAbs
  rw [← Int.natAbs_mul] at s1 s2
  have c1 : rcode mm = 0 := by unfold rcode; rw [if_pos (fits_i64 j1)]
  have c2 : rcode (mm * nn) = 0 := by unfold rcode; rw [if_pos (mul_fits j1 j2)]
  have I1 := fun b A n c W k => is_any mm (by omega) b A n c W k
  have I2 := fun b A n c W k => is_any (mm * nn) (by omega) b A n c W k
  have I3 := fun b A n c W k => is_any (x * nn) (by omega) b A n c W k
  rw [c1] at I1
  rw [c2] at I2
  clear c1 c2 s1 s2 l1 l2 l3 htab i1 k1 j1 j2
  simp only [roomV] at SC
  generalize mm * nn = p at *
  generalize x * nn = q at *
  generalize rhi mm = s0 at *
  generalize rlo mm = s1 at *
  generalize rhi p = d0 at *
  generalize rlo p = d1 at *
  generalize rhi q = n0 at *
  generalize rlo q = n1 at *
  generalize rcode q = n2 at *
  replace OA := Lib.hid OA
  replace SC := Lib.hid SC
  replace OW := Lib.hid OW
  replace MU := Lib.hid MU
  replace I1 := Lib.hid I1
  replace I2 := Lib.hid I2
  replace I3 := Lib.hid I3
  go_enter Tryd.func4, Tryd.ntmps4
  go_wp2_with fail
  refine (WK.out _ (by go_grown)).mono ?_
  rintro e w0 ⟨rfl, hb⟩
  have hHeld : Keeps w [(w.heap.size, 0, .int .i64 ah), (w.heap.size, 1, .int .u64 al)] _ := Keeps.next (by refine ⟨by go_grown, ?_⟩; simp [Cells, go_sem]) hb
  clear hb
  obtain ⟨⟨kz0, kc0, kf0⟩, ⟨kz1, kc1, kf1⟩, _⟩ := hHeld.2
  go_wp2_with fail
  refine (IM.out _).mono ?_
  rintro e wa ⟨b, A, m, c, rfl, hb, za⟩
  replace hHeld := hHeld.next hb
  clear hb kz0 kc0 kf0 kz1 kc1 kf1
  obtain ⟨⟨kz0, kc0, kf0⟩, ⟨kz1, kc1, kf1⟩, _⟩ := hHeld.2
  replace za := Lib.hid za
  go_wp2_with fail
  refine (IN.out _).mono ?_
  rintro e wb ⟨b', A', m', c', rfl, hb, zb⟩
  have HX := Lib.hid (((za.out.below hb).below (below_alloc wb (.cells #[.bool b, .slice A m c] 28))).below (below_alloc _ (.cells #[.bool b', .slice A' m' c'] 28)))
  have HY := Lib.hid ((zb.below (below_alloc wb (.cells #[.bool b, .slice A m c] 28))).below (below_alloc _ (.cells #[.bool b', .slice A' m' c'] 28)))
  replace hHeld := hHeld.next hb
  clear hb za zb kz0 kc0 kf0 kz1 kc1 kf1
  have hK := (((hHeld.alloc (.cells #[.bool b, .slice A m c] 28)).app (newK2 (hHeld.alloc (.cells #[.bool b, .slice A m c] 28)))).alloc (.cells #[.bool b', .slice A' m' c'] 28)).app (newK2 (((hHeld.alloc (.cells #[.bool b, .slice A m c] 28)).app (newK2 (hHeld.alloc (.cells #[.bool b, .slice A m c] 28)))).alloc (.cells #[.bool b', .slice A' m' c'] 28)))
  clear hHeld
  go_upto_region 4 with (fail)
  generalize hGc : (wb.alloc (.cells #[.bool b, .slice A m c] 28)).alloc (.cells #[.bool b', .slice A' m' c'] 28) = wc at hK HX HY ⊢
  clear hGc
  have hHeld : Keeps wc [(w.heap.size, 0, .int .i64 ah), (w.heap.size, 1, .int .u64 al), (wb.heap.size, 0, .bool b), (wb.heap.size, 1, .slice A m c), (wb.heap.size + 1, 0, .bool b'), (wb.heap.size + 1, 1, .slice A' m' c')] wc := ⟨Below.refl _ _, by simpa using hK.2⟩
  obtain ⟨⟨kz0, kc0, kf0⟩, ⟨kz1, kc1, kf1⟩, ⟨kz2, kc2, kf2⟩, ⟨kz3, kc3, kf3⟩, ⟨kz4, kc4, kf4⟩, ⟨kz5, kc5, kf5⟩, _⟩ := hHeld.2
  go_wp2_with fail
  refine (SC.out _).mono ?_
  rintro e wp ⟨rfl, hb⟩
  replace hHeld := hHeld.next hb
  clear hb kz0 kc0 kf0 kz1 kc1 kf1 kz2 kc2 kf2 kz3 kc3 kf3 kz4 kc4 kf4 kz5 kc5 kf5
  obtain ⟨⟨kz0, kc0, kf0⟩, ⟨kz1, kc1, kf1⟩, ⟨kz2, kc2, kf2⟩, ⟨kz3, kc3, kf3⟩, ⟨kz4, kc4, kf4⟩, ⟨kz5, kc5, kf5⟩, _⟩ := hHeld.2
  have hZ := (hHeld.alloc (.cells #[.int .i64 n0, .int .u64 n1] 24)).app (newK2 (hHeld.alloc (.cells #[.int .i64 n0, .int .u64 n1] 24)))
  go_wp2_with fail
  refine region_keeps (w0 := wc) (L := [(w.heap.size, 0, .int .i64 ah), (w.heap.size, 1, .int .u64 al), (wb.heap.size, 0, .bool b), (wb.heap.size, 1, .slice A m c), (wb.heap.size + 1, 0, .bool b'), (wb.heap.size + 1, 1, .slice A' m' c'), (wp.heap.size, 0, .int .i64 n0), (wp.heap.size, 1, .int .u64 n1)]) (by kernel_rfl) (by simpa using hZ) (fun hHeld0 => ?_)
  refine wpAnyH_take (i := 0) (oi := ⟨some 23, _, _, _, _, _⟩) (v := ?_) rfl (by kernel_rfl) (by kernel_rfl) (by kernel_rfl) (fun _ _ _ h => h) (Or.inl ⟨by rfl, ?_⟩) (by assumption) ?_
  rotate_left
  · intro wq hSw; go_simp; (try with_reducible rfl)
  try simp only [Act.put, List.setIfInBounds_toArray, List.set_cons_zero, List.set_cons_succ]
  refine wpAnyH_take (i := 2) (oi := ⟨some 25, _, _, _, _, _⟩) (v := ?_) rfl (by kernel_rfl) (by kernel_rfl) (by kernel_rfl) (fun _ _ _ h => h) (Or.inl ⟨by rfl, ?_⟩) (by assumption) ?_
  rotate_left
  · intro wq hSw; obtain ⟨⟨qz0, qc0, qf0⟩, ⟨qz1, qc1, qf1⟩, ⟨qz2, qc2, qf2⟩, ⟨qz3, qc3, qf3⟩, ⟨qz4, qc4, qf4⟩, ⟨qz5, qc5, qf5⟩, ⟨qz6, qc6, qf6⟩, ⟨qz7, qc7, qf7⟩, _⟩ := hSw.2; go_simp; (try with_reducible rfl)
  try simp only [Act.put, List.setIfInBounds_toArray, List.set_cons_zero, List.set_cons_succ]
  refine wpAnyH_ready (rs := [1]) (by kernel_rfl) (by simp) ?_
  refine AllReadyH.cons (o := ⟨some 24, _, _, _, _, _⟩) rfl (fun K hK => ?_) AllReadyH.nil
  go_simp
  ((with_reducible refine Calls.mono (OW.out _) ?_); rintro en v1 ⟨rfl, hb⟩)
  refine hK.out _ _ (hHeld0.next hb) (fun hHeld1 => ?_)
  clear hK K
  try clear hb
  try simp only [Act.put, List.setIfInBounds_toArray, List.set_cons_zero, List.set_cons_succ]
  refine wpAnyH_ready (rs := [3]) (by kernel_rfl) (by simp) ?_
  refine AllReadyH.cons (o := ⟨some 26, _, _, _, _, _⟩) rfl (fun K hK => ?_) AllReadyH.nil
  go_simp
  ((with_reducible refine Calls.mono (I1.out _ _ _ _ _ (HX.out.below (by first | exact hHeld0.bel | exact hHeld1.bel | exact hHeld2.bel | exact hHeld3.bel | exact hHeld4.bel | exact hHeld5.bel | exact hHeld6.bel | exact hHeld7.bel | exact hHeld8.bel | exact hHeld9.bel | exact hHeld10.bel | exact hHeld11.bel | exact hHeld12.bel | exact hHeld13.bel | exact hHeld14.bel | exact hHeld15.bel | exact hHeld16.bel | exact hHeld17.bel | exact hHeld18.bel | exact hHeld19.bel | exact hHeld20.bel | exact hHeld21.bel | exact hHeld22.bel | exact hHeld23.bel | exact hHeld24.bel | exact hHeld25.bel | exact hHeld26.bel | exact hHeld27.bel | exact hHeld28.bel | exact hHeld29.bel | exact hHeld30.bel | exact hHeld31.bel | exact hHeld32.bel | exact hHeld33.bel | exact hHeld34.bel | exact hHeld35.bel | exact hHeld36.bel | exact hHeld37.bel | exact hHeld38.bel | exact hHeld39.bel | exact hHeld40.bel | exact hHeld41.bel | exact hHeld42.bel | exact hHeld43.bel | exact hHeld44.bel | exact hHeld45.bel | exact hHeld46.bel | exact hHeld47.bel | exact hHeld48.bel | exact hHeld49.bel | exact hHeld50.bel | exact hHeld51.bel | exact hHeld52.bel | exact hHeld53.bel | exact hHeld54.bel | exact hHeld55.bel | exact hHeld56.bel | exact hHeld57.bel | exact hHeld58.bel | exact hHeld59.bel | exact hHeld60.bel | exact hHeld61.bel | exact hHeld62.bel | exact hHeld63.bel | exact hHeld64.bel | exact hHeld65.bel | exact hHeld66.bel | exact hHeld67.bel | exact hHeld68.bel | exact hHeld69.bel | exact hHeld.bel))) ?_); rintro en v3 ⟨rfl, hb⟩)
  refine hK.out _ _ (hHeld1.next hb) (fun hHeld2 => ?_)
  clear hK K
  try clear hb
  try simp only [Act.put, List.setIfInBounds_toArray, List.set_cons_zero, List.set_cons_succ]
  refine wpAnyH_take (i := 4) (oi := ⟨some 27, _, _, _, _, _⟩) (v := ?_) rfl (by kernel_rfl) (by kernel_rfl) (by kernel_rfl) (fun _ _ _ h => h) (Or.inl ⟨by rfl, ?_⟩) (by assumption) ?_
  rotate_left
  · intro wq hSw; go_simp; (try with_reducible rfl)
  try simp only [Act.put, List.setIfInBounds_toArray, List.set_cons_zero, List.set_cons_succ]
  refine wpAnyH_take (i := 5) (oi := ⟨some 28, _, _, _, _, _⟩) (v := ?_) rfl (by kernel_rfl) (by kernel_rfl) (by kernel_rfl) (fun _ _ _ h => h) (Or.inl ⟨by rfl, ?_⟩) (by assumption) ?_
  rotate_left
  · intro wq hSw; go_simp; (try with_reducible rfl)
  try simp only [Act.put, List.setIfInBounds_toArray, List.set_cons_zero, List.set_cons_succ]
  refine wpAnyH_take (i := 6) (oi := ⟨some 29, _, _, _, _, _⟩) (v := ?_) rfl (by kernel_rfl) (by kernel_rfl) (by kernel_rfl) (fun _ _ _ h => h) (Or.inl ⟨by rfl, ?_⟩) (by assumption) ?_
  rotate_left
  · intro wq hSw; go_simp; (try with_reducible rfl)
  try simp only [Act.put, List.setIfInBounds_toArray, List.set_cons_zero, List.set_cons_succ]
  refine wpAnyH_take (i := 8) (oi := ⟨some 31, _, _, _, _, _⟩) (v := ?_) rfl (by kernel_rfl) (by kernel_rfl) (by kernel_rfl) (fun _ _ _ h => h) (Or.inl ⟨by rfl, ?_⟩) (by assumption) ?_
  rotate_left
  · intro wq hSw; obtain ⟨⟨qz0, qc0, qf0⟩, ⟨qz1, qc1, qf1⟩, ⟨qz2, qc2, qf2⟩, ⟨qz3, qc3, qf3⟩, ⟨qz4, qc4, qf4⟩, ⟨qz5, qc5, qf5⟩, ⟨qz6, qc6, qf6⟩, ⟨qz7, qc7, qf7⟩, _⟩ := hSw.2; go_simp; (try with_reducible rfl)
  try simp only [Act.put, List.setIfInBounds_toArray, List.set_cons_zero, List.set_cons_succ]
  refine wpAnyH_take (i := 9) (oi := ⟨some 32, _, _, _, _, _⟩) (v := ?_) rfl (by kernel_rfl) (by kernel_rfl) (by kernel_rfl) (fun _ _ _ h => h) (Or.inl ⟨by rfl, ?_⟩) (by assumption) ?_
  rotate_left
  · intro wq hSw; obtain ⟨⟨qz0, qc0, qf0⟩, ⟨qz1, qc1, qf1⟩, ⟨qz2, qc2, qf2⟩, ⟨qz3, qc3, qf3⟩, ⟨qz4, qc4, qf4⟩, ⟨qz5, qc5, qf5⟩, ⟨qz6, qc6, qf6⟩, ⟨qz7, qc7, qf7⟩, _⟩ := hSw.2; go_simp; (try with_reducible rfl)
  try simp only [Act.put, List.setIfInBounds_toArray, List.set_cons_zero, List.set_cons_succ]
  refine wpAnyH_ready (rs := [7]) (by kernel_rfl) (by simp) ?_
  refine AllReadyH.cons (o := ⟨some 30, _, _, _, _, _⟩) rfl (fun K hK => ?_) AllReadyH.nil
  go_simp
  ((with_reducible refine Calls.mono (MU.out _) ?_); rintro en v7 ⟨rfl, hb⟩)
  refine hK.out _ _ (hHeld2.next hb) (fun hHeld3 => ?_)
  clear hK K
  try clear hb
  try simp only [Act.put, List.setIfInBounds_toArray, List.set_cons_zero, List.set_cons_succ]
  refine wpAnyH_ready (rs := [10]) (by kernel_rfl) (by simp) ?_
  refine AllReadyH.cons (o := ⟨some 33, _, _, _, _, _⟩) rfl (fun K hK => ?_) AllReadyH.nil
  go_simp
  ((with_reducible refine Calls.mono (M1.out _ _ _ (HX.out.below (by first | exact hHeld0.bel | exact hHeld1.bel | exact hHeld2.bel | exact hHeld3.bel | exact hHeld4.bel | exact hHeld5.bel | exact hHeld6.bel | exact hHeld7.bel | exact hHeld8.bel | exact hHeld9.bel | exact hHeld10.bel | exact hHeld11.bel | exact hHeld12.bel | exact hHeld13.bel | exact hHeld14.bel | exact hHeld15.bel | exact hHeld16.bel | exact hHeld17.bel | exact hHeld18.bel | exact hHeld19.bel | exact hHeld20.bel | exact hHeld21.bel | exact hHeld22.bel | exact hHeld23.bel | exact hHeld24.bel | exact hHeld25.bel | exact hHeld26.bel | exact hHeld27.bel | exact hHeld28.bel | exact hHeld29.bel | exact hHeld30.bel | exact hHeld31.bel | exact hHeld32.bel | exact hHeld33.bel | exact hHeld34.bel | exact hHeld35.bel | exact hHeld36.bel | exact hHeld37.bel | exact hHeld38.bel | exact hHeld39.bel | exact hHeld40.bel | exact hHeld41.bel | exact hHeld42.bel | exact hHeld43.bel | exact hHeld44.bel | exact hHeld45.bel | exact hHeld46.bel | exact hHeld47.bel | exact hHeld48.bel | exact hHeld49.bel | exact hHeld50.bel | exact hHeld51.bel | exact hHeld52.bel | exact hHeld53.bel | exact hHeld54.bel | exact hHeld55.bel | exact hHeld56.bel | exact hHeld57.bel | exact hHeld58.bel | exact hHeld59.bel | exact hHeld60.bel | exact hHeld61.bel | exact hHeld62.bel | exact hHeld63.bel | exact hHeld64.bel | exact hHeld65.bel | exact hHeld66.bel | exact hHeld67.bel | exact hHeld68.bel | exact hHeld69.bel | exact hHeld.bel)) (HY.out.below (by first | exact hHeld0.bel | exact hHeld1.bel | exact hHeld2.bel | exact hHeld3.bel | exact hHeld4.bel | exact hHeld5.bel | exact hHeld6.bel | exact hHeld7.bel | exact hHeld8.bel | exact hHeld9.bel | exact hHeld10.bel | exact hHeld11.bel | exact hHeld12.bel | exact hHeld13.bel | exact hHeld14.bel | exact hHeld15.bel | exact hHeld16.bel | exact hHeld17.bel | exact hHeld18.bel | exact hHeld19.bel | exact hHeld20.bel | exact hHeld21.bel | exact hHeld22.bel | exact hHeld23.bel | exact hHeld24.bel | exact hHeld25.bel | exact hHeld26.bel | exact hHeld27.bel | exact hHeld28.bel | exact hHeld29.bel | exact hHeld30.bel | exact hHeld31.bel | exact hHeld32.bel | exact hHeld33.bel | exact hHeld34.bel | exact hHeld35.bel | exact hHeld36.bel | exact hHeld37.bel | exact hHeld38.bel | exact hHeld39.bel | exact hHeld40.bel | exact hHeld41.bel | exact hHeld42.bel | exact hHeld43.bel | exact hHeld44.bel | exact hHeld45.bel | exact hHeld46.bel | exact hHeld47.bel | exact hHeld48.bel | exact hHeld49.bel | exact hHeld50.bel | exact hHeld51.bel | exact hHeld52.bel | exact hHeld53.bel | exact hHeld54.bel | exact hHeld55.bel | exact hHeld56.bel | exact hHeld57.bel | exact hHeld58.bel | exact hHeld59.bel | exact hHeld60.bel | exact hHeld61.bel | exact hHeld62.bel | exact hHeld63.bel | exact hHeld64.bel | exact hHeld65.bel | exact hHeld66.bel | exact hHeld67.bel | exact hHeld68.bel | exact hHeld69.bel | exact hHeld.bel))) ?_); rintro en v10 ⟨b10, A10, m10, c10, rfl, hb, z10⟩)
  refine hK.out _ _ (hHeld3.next hb) (fun hHeld4 => ?_)
  clear hK K
  try clear hb
  try simp only [Act.put, List.setIfInBounds_toArray, List.set_cons_zero, List.set_cons_succ]
  refine wpAnyH_ready (rs := [11]) (by kernel_rfl) (by simp) ?_
  refine AllReadyH.cons (o := ⟨some 34, _, _, _, _, _⟩) rfl (fun K hK => ?_) AllReadyH.nil
  go_simp
  ((with_reducible refine Calls.mono (I2.out _ _ _ _ _ z10) ?_); rintro en v11 ⟨rfl, hb⟩; clear z10)
  refine hK.out _ _ (hHeld4.next hb) (fun hHeld5 => ?_)
  clear hK K
  try clear hb
  try simp only [Act.put, List.setIfInBounds_toArray, List.set_cons_zero, List.set_cons_succ]
  refine wpAnyH_take (i := 12) (oi := ⟨some 35, _, _, _, _, _⟩) (v := ?_) rfl (by kernel_rfl) (by kernel_rfl) (by kernel_rfl) (fun _ _ _ h => h) (Or.inl ⟨by rfl, ?_⟩) (by assumption) ?_
  rotate_left
  · intro wq hSw; go_simp; (try with_reducible rfl)
  try simp only [Act.put, List.setIfInBounds_toArray, List.set_cons_zero, List.set_cons_succ]
  refine wpAnyH_take (i := 13) (oi := ⟨some 36, _, _, _, _, _⟩) (v := ?_) rfl (by kernel_rfl) (by kernel_rfl) (by kernel_rfl) (fun _ _ _ h => h) (Or.inl ⟨by rfl, ?_⟩) (by assumption) ?_
  rotate_left
  · intro wq hSw; go_simp; (try with_reducible rfl)
  try simp only [Act.put, List.setIfInBounds_toArray, List.set_cons_zero, List.set_cons_succ]
  refine wpAnyH_take (i := 14) (oi := ⟨some 37, _, _, _, _, _⟩) (v := ?_) rfl (by kernel_rfl) (by kernel_rfl) (by kernel_rfl) (fun _ _ _ h => h) (Or.inl ⟨by rfl, ?_⟩) (by assumption) ?_
  rotate_left
  · intro wq hSw; obtain ⟨⟨qz0, qc0, qf0⟩, ⟨qz1, qc1, qf1⟩, ⟨qz2, qc2, qf2⟩, ⟨qz3, qc3, qf3⟩, ⟨qz4, qc4, qf4⟩, ⟨qz5, qc5, qf5⟩, ⟨qz6, qc6, qf6⟩, ⟨qz7, qc7, qf7⟩, _⟩ := hSw.2; go_simp; (try with_reducible rfl)
  try simp only [Act.put, List.setIfInBounds_toArray, List.set_cons_zero, List.set_cons_succ]
  refine wpAnyH_take (i := 15) (oi := ⟨some 38, _, _, _, _, _⟩) (v := ?_) rfl (by kernel_rfl) (by kernel_rfl) (by kernel_rfl) (fun _ _ _ h => h) (Or.inl ⟨by rfl, ?_⟩) (by assumption) ?_
  rotate_left
  · intro wq hSw; go_simp; (try with_reducible rfl)
  try simp only [Act.put, List.setIfInBounds_toArray, List.set_cons_zero, List.set_cons_succ]
  refine wpAnyH_take (i := 16) (oi := ⟨some 39, _, _, _, _, _⟩) (v := ?_) rfl (by kernel_rfl) (by kernel_rfl) (by kernel_rfl) (fun _ _ _ h => h) (Or.inl ⟨by rfl, ?_⟩) (by assumption) ?_
  rotate_left
  · intro wq hSw; obtain ⟨⟨qz0, qc0, qf0⟩, ⟨qz1, qc1, qf1⟩, ⟨qz2, qc2, qf2⟩, ⟨qz3, qc3, qf3⟩, ⟨qz4, qc4, qf4⟩, ⟨qz5, qc5, qf5⟩, ⟨qz6, qc6, qf6⟩, ⟨qz7, qc7, qf7⟩, _⟩ := hSw.2; go_simp; (try with_reducible rfl)
  try simp only [Act.put, List.setIfInBounds_toArray, List.set_cons_zero, List.set_cons_succ]
  refine wpAnyH_take (i := 18) (oi := ⟨some 41, _, _, _, _, _⟩) (v := ?_) rfl (by kernel_rfl) (by kernel_rfl) (by kernel_rfl) (fun _ _ _ h => h) (Or.inl ⟨by rfl, ?_⟩) (by assumption) ?_
  rotate_left
  · intro wq hSw; obtain ⟨⟨qz0, qc0, qf0⟩, ⟨qz1, qc1, qf1⟩, ⟨qz2, qc2, qf2⟩, ⟨qz3, qc3, qf3⟩, ⟨qz4, qc4, qf4⟩, ⟨qz5, qc5, qf5⟩, ⟨qz6, qc6, qf6⟩, ⟨qz7, qc7, qf7⟩, _⟩ := hSw.2; go_simp; (try with_reducible rfl)
  try simp only [Act.put, List.setIfInBounds_toArray, List.set_cons_zero, List.set_cons_succ]
  refine wpAnyH_ready (rs := [17]) (by kernel_rfl) (by simp) ?_
  refine AllReadyH.cons (o := ⟨some 40, _, _, _, _, _⟩) rfl (fun K hK => ?_) AllReadyH.nil
  go_simp
  ((with_reducible refine Calls.mono (OA.out _) ?_); rintro en v17 ⟨b17, A17, m17, c17, rfl, hb, z17⟩)
  refine hK.out _ _ (hHeld5.next hb) (fun hHeld6 => ?_)
  clear hK K
  try clear hb
  try simp only [Act.put, List.setIfInBounds_toArray, List.set_cons_zero, List.set_cons_succ]
  refine wpAnyH_ready (rs := [19]) (by kernel_rfl) (by simp) ?_
  refine AllReadyH.cons (o := ⟨some 42, _, _, _, _, _⟩) rfl (fun K hK => ?_) AllReadyH.nil
  go_simp
  ((with_reducible refine Calls.mono (M2.out _ _ _ z17 (HY.out.below (by first | exact hHeld0.bel | exact hHeld1.bel | exact hHeld2.bel | exact hHeld3.bel | exact hHeld4.bel | exact hHeld5.bel | exact hHeld6.bel | exact hHeld7.bel | exact hHeld8.bel | exact hHeld9.bel | exact hHeld10.bel | exact hHeld11.bel | exact hHeld12.bel | exact hHeld13.bel | exact hHeld14.bel | exact hHeld15.bel | exact hHeld16.bel | exact hHeld17.bel | exact hHeld18.bel | exact hHeld19.bel | exact hHeld20.bel | exact hHeld21.bel | exact hHeld22.bel | exact hHeld23.bel | exact hHeld24.bel | exact hHeld25.bel | exact hHeld26.bel | exact hHeld27.bel | exact hHeld28.bel | exact hHeld29.bel | exact hHeld30.bel | exact hHeld31.bel | exact hHeld32.bel | exact hHeld33.bel | exact hHeld34.bel | exact hHeld35.bel | exact hHeld36.bel | exact hHeld37.bel | exact hHeld38.bel | exact hHeld39.bel | exact hHeld40.bel | exact hHeld41.bel | exact hHeld42.bel | exact hHeld43.bel | exact hHeld44.bel | exact hHeld45.bel | exact hHeld46.bel | exact hHeld47.bel | exact hHeld48.bel | exact hHeld49.bel | exact hHeld50.bel | exact hHeld51.bel | exact hHeld52.bel | exact hHeld53.bel | exact hHeld54.bel | exact hHeld55.bel | exact hHeld56.bel | exact hHeld57.bel | exact hHeld58.bel | exact hHeld59.bel | exact hHeld60.bel | exact hHeld61.bel | exact hHeld62.bel | exact hHeld63.bel | exact hHeld64.bel | exact hHeld65.bel | exact hHeld66.bel | exact hHeld67.bel | exact hHeld68.bel | exact hHeld69.bel | exact hHeld.bel))) ?_); rintro en v19 ⟨b19, A19, m19, c19, rfl, hb, z19⟩; clear z17)
  refine hK.out _ _ (hHeld6.next hb) (fun hHeld7 => ?_)
  clear hK K
  try clear hb
  try simp only [Act.put, List.setIfInBounds_toArray, List.set_cons_zero, List.set_cons_succ]
  refine wpAnyH_ready (rs := [20]) (by kernel_rfl) (by simp) ?_
  refine AllReadyH.cons (o := ⟨some 43, _, _, _, _, _⟩) rfl (fun K hK => ?_) AllReadyH.nil
  go_simp
  ((with_reducible refine Calls.mono (I3.out _ _ _ _ _ z19) ?_); rintro en v20 ⟨rfl, hb⟩; clear z19)
  refine hK.out _ _ (hHeld7.next hb) (fun hHeld8 => ?_)
  clear hK K
  try clear hb
  try simp only [Act.put, List.setIfInBounds_toArray, List.set_cons_zero, List.set_cons_succ]
  refine wpAnyH_take (i := 21) (oi := ⟨some 44, _, _, _, _, _⟩) (v := ?_) rfl (by kernel_rfl) (by kernel_rfl) (by kernel_rfl) (fun _ _ _ h => h) (Or.inl ⟨by rfl, ?_⟩) (by assumption) ?_
  rotate_left
  · intro wq hSw; go_simp; (try with_reducible rfl)
  try simp only [Act.put, List.setIfInBounds_toArray, List.set_cons_zero, List.set_cons_succ]
  refine wpAnyH_take (i := 22) (oi := ⟨some 6, _, _, _, _, _⟩) (v := ?_) rfl (by kernel_rfl) (by kernel_rfl) (by kernel_rfl) (fun _ _ _ h => h) (Or.inl ⟨by rfl, ?_⟩) (by assumption) ?_
  rotate_left
  · intro wq hSw; go_simp; (try with_reducible rfl)
  try simp only [Act.put, List.setIfInBounds_toArray, List.set_cons_zero, List.set_cons_succ]
  refine wpAnyH_done (by kernel_rfl) ?_ _
  have hHeld := hHeld8
  obtain ⟨⟨kz0, kc0, kf0⟩, ⟨kz1, kc1, kf1⟩, ⟨kz2, kc2, kf2⟩, ⟨kz3, kc3, kf3⟩, ⟨kz4, kc4, kf4⟩, ⟨kz5, kc5, kf5⟩, ⟨kz6, kc6, kf6⟩, ⟨kz7, kc7, kf7⟩, _⟩ := hHeld.2
  all_goals
    go_wp2_with fail
    go_ret
    exact ⟨rfl, under hK.1 hHeld.1⟩
end Go.Proofs.YtinppckjolkhpaaDoor
