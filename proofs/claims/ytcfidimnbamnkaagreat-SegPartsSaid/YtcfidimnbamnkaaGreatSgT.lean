/-
 Layer 11: the law's wakes, and what two rows come to together. Conditions: those written at each fact.
-/
import Derived.Test.YtcfidimnbamnkaaGreatKitV
import Derived.Test.YtcfidimnbamnkaaGreatKitW
import Derived.Maps.RangeWalk
import Derived.Test.YtcfidimnbamnkaaGreatSgS
import Derived.Test.YtcfidimnbamnkaaGreatSgO
namespace Go.Proofs.YtcfidimnbamnkaaGreat.P11
open Go.RowKit Go.Shelf Go.Proofs.YtcfidimnbamnkaaGreat.P7

def wakeS : Sg := ⟨2, [⟨10, 2, 4⟩], 5, 0, 1, 2, [], 3⟩
theorem wake_ok : segB wakeS = true := by decide +kernel
theorem wake_kind : kindK 5 0 1 2 = 2 := by decide +kernel
theorem wake_part : partsOf wakeS 11 100 = [6, 7, 8] ∧ partC wakeS 11 100 = 0 := by decide +kernel
theorem wake_at : atN wakeS 14 = 7 ∧ atC wakeS 14 = 0 ∧ atN wakeS 13 = 0 ∧ atC wakeS 13 = 4 := by decide +kernel
set_option maxRecDepth 100000 in
set_option maxHeartbeats 4000000 in
theorem wakes_any (w : World) : Calls Tryz.prog 14 #[] w (Ret w (.bool true)) := by
 have e1 : madeS wakeS = wakeS := by unfold madeS; rw [wake_ok]; rfl
 have e2 : madeC wakeS = 0 := by unfold madeC; rw [wake_ok]; rfl
 have OF := fun v W (h : ReadsR W v [⟨10, 2, 4⟩]) => ofM_any [⟨10, 2, 4⟩] 5 0 1 2 3 (by simp) v W h
 rw [wake_kind] at OF
 have OF2 : Hid (∀ v W, ReadsR W v [⟨10, 2, 4⟩] → Calls Tryz.prog 25 #[v, lnV 5 0 1 2, .int .i64 3] W (fun e w' => ∃ A1 n1 c1 A2 n2 c2, e = .returned (.tuple #[sgV 2 (.slice A1 n1 c1) 5 0 1 2 (.slice A2 n2 c2) 3, .int .i64 0]) ∧ Below W.heap.size W w' ∧ Own2 w' W.heap.size wakeS (.slice A1 n1 c1) (.slice A2 n2 c2))) := Lib.hid (fun v W h => (OF v W h).mono (fun e w' hm => by
  obtain ⟨v2, u2, he, hb, ho⟩ := hm
  rw [show (⟨2, [⟨10, 2, 4⟩], 5, 0, 1, 2, [], 3⟩ : Sg) = wakeS from rfl, e1, e2] at he
  rw [show (⟨2, [⟨10, 2, 4⟩], 5, 0, 1, 2, [], 3⟩ : Sg) = wakeS from rfl, e1] at ho
  obtain ⟨A1, n1, c1, rfl⟩ := own_sl ho.runs
  obtain ⟨A2, n2, c2, rfl⟩ := own_sl ho.raws
  exact ⟨A1, n1, c1, A2, n2, c2, he, hb, ho⟩))
 have PA : Hid (∀ v u W, ReadsR W v wakeS.R → Reads .i64 W u wakeS.V → Calls Tryz.prog 31 #[sgV 2 v 5 0 1 2 u 3, .int .i64 11, .int .i64 100] W (Ret W (.tuple #[fiveV 3 6 8 (rhi 21) (rlo 21), .int .i64 0]))) := Lib.hid (fun v u W h hu => by
  have := part_any wakeS (by decide) (by decide) 11 100 v u W h hu
  rw [wake_part.1, wake_part.2] at this
  exact this)
 have A1 : Hid (∀ v u W, ReadsR W v wakeS.R → Reads .i64 W u wakeS.V → Calls Tryz.prog 28 #[sgV 2 v 5 0 1 2 u 3, .int .i64 14] W (Ret W (.tuple #[.int .i64 7, .int .i64 0]))) := Lib.hid (fun v u W h hu => by
  have := at_seg wakeS (by decide) (by decide) 14 v u W h hu
  rwa [wake_at.1, wake_at.2.1] at this)
 have A2 : Hid (∀ v u W, ReadsR W v wakeS.R → Reads .i64 W u wakeS.V → Calls Tryz.prog 28 #[sgV 2 v 5 0 1 2 u 3, .int .i64 13] W (Ret W (.tuple #[.int .i64 0, .int .i64 4]))) := Lib.hid (fun v u W h hu => by
  have := at_seg wakeS (by decide) (by decide) 13 v u W h hu
  rwa [wake_at.2.2.1, wake_at.2.2.2] at this)
 have WO := Lib.hid (fun W => of_any 21 (by unfold I64; omega) W)
 obtain ⟨z0, hz0⟩ : ∃ x, x = rhi 21 := ⟨_, rfl⟩
 obtain ⟨z1, hz1⟩ : ∃ x, x = rlo 21 := ⟨_, rfl⟩
 rw [← hz0, ← hz1] at PA WO
 have R1 : Hid (ReadsR (w.alloc (.cells #[.int .i64 10, .int .i64 2, .int .i64 4] 44)) (.slice (some ⟨w.heap.size, 0, none⟩) 1 1) [⟨10, 2, 4⟩]) := Lib.hid (by
  refine ⟨_, _, rfl, Nat.le_refl _, fun i r hi => ⟨w.heap.size, 0, rfl, by simp, ?_⟩⟩
  cases i with
  | zero => simp at hi; subst hi; simp [go_sem]
  | succ i => simp at hi)
 clear OF e1 e2 hz0 hz1
 go_enter Tryz.func14, Tryz.ntmps14
 go_wp2_with fail
 have hb0 := below_alloc w (.cells #[.int .i64 10, .int .i64 2, .int .i64 4] 44)
 refine (OF2.out _ _ R1.out).mono ?_
 rintro e w1 ⟨B1, n1, c1, B2, n2, c2, rfl, hb, ho⟩
 have hB1 := under hb0 hb
 have HO := Lib.hid ho
 clear hb hb0 ho R1 OF2
 have hK := new_seg hB1 27 2 (.slice B1 n1 c1) 5 0 1 2 (.slice B2 n2 c2) 3
 have ho := HO.out.below (below_alloc w1 (sgO 27 2 (.slice B1 n1 c1) 5 0 1 2 (.slice B2 n2 c2) 3))
 clear HO hB1
 go_wp2_with fail
 refine (PA.out _ _ _ ho.readsR ho.reads).mono ?_
 rintro e w2 ⟨rfl, hb⟩
 replace hK := hK.next hb
 replace ho := ho.below hb
 clear hb
 generalize w1.heap.size = g at *
 have hN : Keeps w [(w2.heap.size, 0, .int .i64 3), (w2.heap.size, 1, .int .i64 6), (w2.heap.size, 2, .int .i64 8), (w2.heap.size, 3, .int .i64 z0), (w2.heap.size, 4, .int .u64 z1)] (w2.alloc (.cells #[.int .i64 3, .int .i64 6, .int .i64 8, .int .i64 z0, .int .u64 z1] 59)) := ⟨(hK.alloc _).1, by simp [Cells, go_sem]⟩
 replace hN := (hK.alloc (.cells #[.int .i64 3, .int .i64 6, .int .i64 8, .int .i64 z0, .int .u64 z1] 59)).app hN
 replace ho := ho.below (below_alloc w2 (.cells #[.int .i64 3, .int .i64 6, .int .i64 8, .int .i64 z0, .int .u64 z1] 59))
 clear hK PA
 go_upto_region 3 with (fail)
 generalize w2.alloc (.cells #[.int .i64 3, .int .i64 6, .int .i64 8, .int .i64 z0, .int .u64 z1] 59) = w3 at *
 generalize w2.heap.size = g2 at *
 obtain ⟨⟨kz0,kc0,kf0⟩,⟨kz1,kc1,kf1⟩,⟨kz2,kc2,kf2⟩,⟨kz3,kc3,kf3⟩,⟨kz4,kc4,kf4⟩,⟨kz5,kc5,kf5⟩,⟨kz6,kc6,kf6⟩,⟨kz7,kc7,kf7⟩,⟨kz8,kc8,kf8⟩,⟨kz9,kc9,kf9⟩,⟨kz10,kc10,kf10⟩,⟨kz11,kc11,kf11⟩,⟨kz12,kc12,kf12⟩,_⟩ := hN.2
 go_wp2_with fail
 refine (A1.out _ _ _ ho.readsR ho.reads).mono ?_
 rintro e w4 ⟨rfl, hb⟩
 replace hN := hN.next hb
 replace ho := ho.below hb
 clear hb A1
 (try clear hHeld0); (try clear hHeld1); (try clear kz0 kc0 kf0); (try clear kz1 kc1 kf1); (try clear kz2 kc2 kf2); (try clear kz3 kc3 kf3); (try clear kz4 kc4 kf4); (try clear kz5 kc5 kf5); (try clear kz6 kc6 kf6); (try clear kz7 kc7 kf7); (try clear kz8 kc8 kf8); (try clear kz9 kc9 kf9); (try clear kz10 kc10 kf10); (try clear kz11 kc11 kf11); (try clear kz12 kc12 kf12)
 obtain ⟨⟨kz0,kc0,kf0⟩,⟨kz1,kc1,kf1⟩,⟨kz2,kc2,kf2⟩,⟨kz3,kc3,kf3⟩,⟨kz4,kc4,kf4⟩,⟨kz5,kc5,kf5⟩,⟨kz6,kc6,kf6⟩,⟨kz7,kc7,kf7⟩,⟨kz8,kc8,kf8⟩,⟨kz9,kc9,kf9⟩,⟨kz10,kc10,kf10⟩,⟨kz11,kc11,kf11⟩,⟨kz12,kc12,kf12⟩,_⟩ := hN.2
 go_wp2_with fail
 refine (A2.out _ _ _ ho.readsR ho.reads).mono ?_
 rintro e w5 ⟨rfl, hb⟩
 replace hN := hN.next hb
 clear hb ho A2
 (try clear hHeld0); (try clear hHeld1); (try clear kz0 kc0 kf0); (try clear kz1 kc1 kf1); (try clear kz2 kc2 kf2); (try clear kz3 kc3 kf3); (try clear kz4 kc4 kf4); (try clear kz5 kc5 kf5); (try clear kz6 kc6 kf6); (try clear kz7 kc7 kf7); (try clear kz8 kc8 kf8); (try clear kz9 kc9 kf9); (try clear kz10 kc10 kf10); (try clear kz11 kc11 kf11); (try clear kz12 kc12 kf12)
 go_upto_region 5 with (fail)
 refine region_keeps (w0 := w) (L := [(g, 0, .int .i64 2), (g, 1, .slice B1 n1 c1), (g, 2, .int .i64 5), (g, 3, .int .i64 0), (g, 4, .int .i64 1), (g, 5, .int .i64 2), (g, 6, .slice B2 n2 c2), (g, 7, .int .i64 3), (g2, 0, .int .i64 3), (g2, 1, .int .i64 6), (g2, 2, .int .i64 8), (g2, 3, .int .i64 z0), (g2, 4, .int .u64 z1)]) (by kernel_rfl) hN (fun hHeld0 => ?_)
 refine tv 0 31 rfl rfl ?_
 try go_frame
 refine tv 1 32 rfl rfl ?_
 try go_frame
 refine tv 2 33 rfl rfl ?_
 try go_frame
 refine tv 3 34 rfl rfl ?_
 try go_frame
 refine tk 4 35 rfl rfl ?_ ?_ ?_
 rotate_left
 ·intro wq hSw; obtain ⟨⟨_,_,_⟩,⟨_,_,_⟩,⟨_,_,_⟩,⟨_,_,_⟩,⟨_,_,_⟩,⟨_,_,_⟩,⟨_,_,_⟩,⟨_,_,_⟩,⟨_,_,_⟩,⟨_,_,_⟩,⟨_,_,_⟩,⟨_,_,_⟩,⟨_,_,_⟩,_⟩ := hSw.2; go_simp; (try with_reducible rfl)
 try go_frame
 refine tv 5 36 rfl rfl ?_
 try go_frame
 refine tv 6 37 rfl rfl ?_
 try go_frame
 refine tv 7 38 rfl rfl ?_
 try go_frame
 refine tv 8 39 rfl rfl ?_
 try go_frame
 refine tv 9 40 rfl rfl ?_
 try go_frame
 refine tv 10 41 rfl rfl ?_
 try go_frame
 refine tv 11 42 rfl rfl ?_
 try go_frame
 refine tk 12 43 rfl rfl ?_ ?_ ?_
 rotate_left
 ·intro wq hSw; obtain ⟨⟨_,_,_⟩,⟨_,_,_⟩,⟨_,_,_⟩,⟨_,_,_⟩,⟨_,_,_⟩,⟨_,_,_⟩,⟨_,_,_⟩,⟨_,_,_⟩,⟨_,_,_⟩,⟨_,_,_⟩,⟨_,_,_⟩,⟨_,_,_⟩,⟨_,_,_⟩,_⟩ := hSw.2; go_simp; (try with_reducible rfl)
 try go_frame
 refine tw 13 rfl fun K hK => ?_
 go_simp
 ((with_reducible refine (WO.out _).mono ?_); rintro e w6 ⟨rfl, hb⟩)
 refine hK.out _ _ (hHeld0.next hb) (fun hHeld1 => ?_)
 clear hK K; try clear hb
 try go_frame
 refine tv 14 45 rfl rfl ?_
 try go_frame
 refine tv 15 46 rfl rfl ?_
 try go_frame
 refine tv 16 47 rfl rfl ?_
 try go_frame
 refine tv 17 48 rfl rfl ?_
 try go_frame
 refine tv 18 49 rfl rfl ?_
 try go_frame
 refine tv 19 50 rfl rfl ?_
 try go_frame
 refine tv 20 51 rfl rfl ?_
 try go_frame
 refine tv 21 52 rfl rfl ?_
 try go_frame
 refine tv 22 53 rfl rfl ?_
 try go_frame
 refine tv 23 54 rfl rfl ?_
 try go_frame
 refine tv 24 55 rfl rfl ?_
 try go_frame
 refine tv 25 56 rfl rfl ?_
 try go_frame
 refine tv 26 57 rfl rfl ?_
 try go_frame
 refine tv 27 58 rfl rfl ?_
 try go_frame
 refine tv 28 59 rfl rfl ?_
 try go_frame
 refine tv 29 0 rfl rfl ?_
 try go_frame
 refine wpAnyH_done (by kernel_rfl) ?_ _
 have hHeld := hHeld1
 obtain ⟨⟨kz0,kc0,kf0⟩,⟨kz1,kc1,kf1⟩,⟨kz2,kc2,kf2⟩,⟨kz3,kc3,kf3⟩,⟨kz4,kc4,kf4⟩,⟨kz5,kc5,kf5⟩,⟨kz6,kc6,kf6⟩,⟨kz7,kc7,kf7⟩,⟨kz8,kc8,kf8⟩,⟨kz9,kc9,kf9⟩,⟨kz10,kc10,kf10⟩,⟨kz11,kc11,kf11⟩,⟨kz12,kc12,kf12⟩,_⟩ := hHeld.2
 all_goals
  have hB := hHeld.1
  clear hHeld hN
  (try clear hHeld0); (try clear hHeld1); (try clear kz0 kc0 kf0); (try clear kz1 kc1 kf1); (try clear kz2 kc2 kf2); (try clear kz3 kc3 kf3); (try clear kz4 kc4 kf4); (try clear kz5 kc5 kf5); (try clear kz6 kc6 kf6); (try clear kz7 kc7 kf7); (try clear kz8 kc8 kf8); (try clear kz9 kc9 kf9); (try clear kz10 kc10 kf10); (try clear kz11 kc11 kf11); (try clear kz12 kc12 kf12)
  go_wp2_with fail
  go_ret
  exact ⟨rfl, hB⟩
end Go.Proofs.YtcfidimnbamnkaaGreat.P11
