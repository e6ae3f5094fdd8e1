/-
 Layer 12: does the layer do anything: the law's tilt, and what its bytes are. Conditions: those written at each fact.
-/
import Derived.Test.YtcfidimnbamnkaaGreatKitW
import Derived.Maps.RangeWalk
import Derived.Test.YtcfidimnbamnkaaGreatSMX
import Derived.Test.YtcfidimnbamnkaaGreatRD
import Derived.Test.YtcfidimnbamnkaaGreatKitC
namespace Go.Proofs.YtcfidimnbamnkaaGreat.P12
open Go.RowKit Go.Shelf Go.Proofs.YtcfidimnbamnkaaGreat.P2 Go.Proofs.YtcfidimnbamnkaaGreat.P7 Go.Proofs.YtcfidimnbamnkaaGreat.P11

def tiltS : Sg := ⟨2, [⟨10, 2, 4⟩], 5, 0, 1, 2, [], 3⟩
def flatS2 : Sg := ⟨1, [⟨0, 0, 1⟩], -1, 0, 0, 1, [], 0⟩
theorem tilt_dec : decS [2, 3, 1, 10, 4, 2, 2, 2, 10] = .ok (tiltS, 9) := by kernel_rfl
theorem flat_get : getS [9, 1, 0, 1, 0, 1, 1] 1 = .ok (flatS2, 7) := by kernel_rfl
theorem cut_dec : decS [1, 0, 1, 0, 1] = .error 6 := by kernel_rfl
theorem tilt_laid : laidB tiltS = [2, 3, 1, 10, 4, 2, 2, 2, 10] := by kernel_rfl
theorem tilt_layE : layE tiltS = 0 := by kernel_rfl
theorem tilt_same : sameB tiltS tiltS = true := by kernel_rfl
theorem tilt_any (w : World) : Calls Tryz.prog 93 #[] w (fun e w' => ∃ g, e = .returned (sgV 2 (.slice (some ⟨g, 0, none⟩) 1 1) 5 0 1 2 (.slice none 0 0) 3) ∧ Below w.heap.size w w' ∧ ReadsR w' (.slice (some ⟨g, 0, none⟩) 1 1) [⟨10, 2, 4⟩]) := by
 go_enter Tryz.func93, Tryz.ntmps93
 go_wp2_with fail
 refine bodyPost_ret (v := sgV 2 (.slice (some ⟨w.heap.size + 1, 0, none⟩) 1 1) 5 0 1 2 (.slice none 0 0) 3) (by simp [results, Tryz.results93, go_sem]) rfl ?_
 refine ⟨_, rfl, (below_alloc w _).trans ((below_alloc _ _).mono (below_alloc w _).size), ⟨_, _, rfl, Nat.le_refl _, fun i r hi => ?_⟩⟩
 match i, hi with
 | 0, hi => simp at hi; subst hi; exact ⟨w.heap.size + 1, 0, rfl, by simp, by simp [go_sem], by simp [go_sem], by simp [go_sem]⟩
 | i + 1, hi => simp at hi
set_option maxRecDepth 100000 in
set_option maxHeartbeats 8000000 in
theorem wakes12_any (w : World) : Calls Tryz.prog 42 #[] w (Ret w (.bool true)) := by
 have TI := Lib.hid tilt_any
 go_enter Tryz.func42, Tryz.ntmps42
 go_wp2_with fail
 refine (TI.out _).mono ?_
 rintro e w1 ⟨g1, rfl, hb1, hr1⟩
 have EN := encode_any tiltS (by decide) (by decide) _ (.slice none 0 0) w1 hr1 Reads.nil
 go_wp2_with fail
 refine EN.mono ?_
 rintro e w2 ⟨bv, rfl, hb2, ho2⟩
 rw [tilt_laid] at ho2
 rw [tilt_layE]
 replace hb2 := under hb1 hb2
 have hrb := reads_own (k := .u8) ho2
 clear EN hr1 hb1 ho2
 go_wp2_with fail
 refine (TI.out _).mono ?_
 rintro e w3 ⟨g3, rfl, hb3, hr3⟩
 have SZ := size_any tiltS (by decide) (by decide) _ (.slice none 0 0) w3 hr3 Reads.nil
 go_wp2_with fail
 refine SZ.mono ?_
 rintro e w4 ⟨rfl, hb4⟩
 rw [tilt_laid, tilt_layE]
 replace hrb := (hrb.below hb3).below hb4
 replace hb4 := under (under hb2 hb3) hb4
 clear SZ hr3 hb2 hb3
 go_wp2_with fail
 have D1 := decode_any [2, 3, 1, 10, 4, 2, 2, 2, 10] (by decide) (by decide) (.slice (some ⟨w4.heap.size, 0, none⟩) 9 9) (w4.alloc (.cells #[.int .u8 2, .int .u8 3, .int .u8 1, .int .u8 10, .int .u8 4, .int .u8 2, .int .u8 2, .int .u8 2, .int .u8 10] 5)) (reads_new (k := .u8) (l := [2, 3, 1, 10, 4, 2, 2, 2, 10]) 9 rfl)
 rw [tilt_dec] at D1
 refine D1.mono ?_
 rintro e w5 ⟨hb5, A, n, c, A', n', c', rfl, hO, hV⟩
 dsimp only [tiltS]
 have hX5 : Below w4.heap.size w4 w5 := (below_alloc w4 _).trans (hb5.mono (below_alloc w4 _).size)
 have hB5 := under hb4 hX5
 replace hrb := hrb.below hX5
 have hR5 := readR_own hO
 have hV5 := reads_own (k := .i64) hV
 have K5 : Keeps w (sgL w5.heap.size 2 (.slice A n c) 5 0 1 2 (.slice A' n' c') 3) (w5.alloc (sgO 27 2 (.slice A n c) 5 0 1 2 (.slice A' n' c') 3)) := new_seg hB5 _ _ _ _ _ _ _ _ _
 replace hrb := hrb.below (below_alloc w5 (sgO 27 2 (.slice A n c) 5 0 1 2 (.slice A' n' c') 3))
 replace hR5 := hR5.below (below_alloc w5 (sgO 27 2 (.slice A n c) 5 0 1 2 (.slice A' n' c') 3))
 replace hV5 := hV5.below (below_alloc w5 (sgO 27 2 (.slice A n c) 5 0 1 2 (.slice A' n' c') 3))
 clear D1 hb4 hb5 hX5 hB5 hO hV
 go_upto_region 4 with (fail)
 generalize w5.alloc (sgO 27 2 (.slice A n c) 5 0 1 2 (.slice A' n' c') 3) = w6 at *
 generalize w5.heap.size = b5 at *
 have G1 := sget_any [9, 1, 0, 1, 0, 1, 1] (by decide) (by decide) 1 (.slice (some ⟨w6.heap.size, 0, none⟩) 7 7) (w6.alloc (.cells #[.int .u8 9, .int .u8 1, .int .u8 0, .int .u8 1, .int .u8 0, .int .u8 1, .int .u8 1] 5)) (reads_new (k := .u8) (l := [9, 1, 0, 1, 0, 1, 1]) 7 rfl)
 rw [flat_get] at G1
 go_wp2_with fail
 refine G1.mono ?_
 rintro e w7 ⟨hb7, A3, n3, c3, A4, n4, c4, rfl, hO, hV⟩
 dsimp only [flatS2]
 have hX7 : Below w6.heap.size w6 w7 := (below_alloc w6 _).trans (hb7.mono (below_alloc w6 _).size)
 replace K5 := K5.next hX7
 replace hrb := hrb.below hX7
 replace hR5 := hR5.below hX7
 replace hV5 := hV5.below hX7
 have K7 := K5.next (below_alloc w7 (sgO 27 1 (.slice A3 n3 c3) (-1) 0 0 1 (.slice A4 n4 c4) 0))
 have K8 := K7.app (new_seg K5.1 27 1 (.slice A3 n3 c3) (-1) 0 0 1 (.slice A4 n4 c4) 0)
 replace hrb := hrb.below (below_alloc w7 (sgO 27 1 (.slice A3 n3 c3) (-1) 0 0 1 (.slice A4 n4 c4) 0))
 replace hR5 := hR5.below (below_alloc w7 (sgO 27 1 (.slice A3 n3 c3) (-1) 0 0 1 (.slice A4 n4 c4) 0))
 replace hV5 := hV5.below (below_alloc w7 (sgO 27 1 (.slice A3 n3 c3) (-1) 0 0 1 (.slice A4 n4 c4) 0))
 clear G1 hb7 hX7 hO hV K5 K7
 go_upto_region 5 with (fail)
 generalize w7.alloc (sgO 27 1 (.slice A3 n3 c3) (-1) 0 0 1 (.slice A4 n4 c4) 0) = w8 at *
 generalize w7.heap.size = b7 at *
 have D3 := decode_any [1, 0, 1, 0, 1] (by decide) (by decide) (.slice (some ⟨w8.heap.size, 0, none⟩) 5 5) (w8.alloc (.cells #[.int .u8 1, .int .u8 0, .int .u8 1, .int .u8 0, .int .u8 1] 5)) (reads_new (k := .u8) (l := [1, 0, 1, 0, 1]) 5 rfl)
 rw [cut_dec] at D3
 go_wp2_with fail
 refine D3.mono ?_
 rintro e w9 ⟨hb9, rfl⟩
 have hX9 : Below w8.heap.size w8 w9 := (below_alloc w8 _).trans (hb9.mono (below_alloc w8 _).size)
 replace hX9 := hX9.trans ((below_alloc w9 (.cells #[.int .i64 0, .slice none 0 0, .int .i64 0, .int .i64 0, .int .i64 0, .int .i64 0, .slice none 0 0, .int .i64 0] 27)).mono hX9.size)
 replace K8 := K8.next hX9
 replace hrb := hrb.below hX9
 replace hR5 := hR5.below hX9
 replace hV5 := hV5.below hX9
 clear D3 hb9 hX9
 go_upto_region 6 with (fail)
 generalize w9.alloc (.cells #[.int .i64 0, .slice none 0 0, .int .i64 0, .int .i64 0, .int .i64 0, .int .i64 0, .slice none 0 0, .int .i64 0] 27) = wa at *
 have hB0 := K8.1
 have hK : Keeps wa [(b5, 0, .int .i64 2), (b5, 1, .slice A n c), (b5, 2, .int .i64 5), (b5, 3, .int .i64 0), (b5, 4, .int .i64 1), (b5, 5, .int .i64 2), (b5, 6, .slice A' n' c'), (b5, 7, .int .i64 3), (b7, 0, .int .i64 1), (b7, 1, .slice A3 n3 c3), (b7, 2, .int .i64 (-1)), (b7, 3, .int .i64 0), (b7, 4, .int .i64 0), (b7, 5, .int .i64 1), (b7, 6, .slice A4 n4 c4), (b7, 7, .int .i64 0)] wa := ⟨Below.refl _ _, K8.2⟩
 have HRB := Lib.hid hrb
 have HR5 := Lib.hid hR5
 have HV5 := Lib.hid hV5
 have EQ := Lib.hid (fun u W (h1 : Below wa.heap.size wa W) (h2 : Reads .u8 W u [2, 3, 1, 10, 4, 2, 2, 2, 10]) => (by
  have := equalB [2, 3, 1, 10, 4, 2, 2, 2, 10] [2, 3, 1, 10, 4, 2, 2, 2, 10] (by decide) bv u W (hrb.below h1) h2
  rwa [eqB_true rfl] at this : Calls Tryz.prog 47 #[bv, u] W (Ret W (.bool true))))
 have SM := Lib.hid (fun g W (h1 : Below wa.heap.size wa W) (h2 : ReadsR W (.slice (some ⟨g, 0, none⟩) 1 1) [⟨10, 2, 4⟩]) => (by
  have := P11.refSameS_any tiltS tiltS (by decide) (by decide) (by decide) _ _ _ (.slice none 0 0) W (hR5.below h1) (hV5.below h1) h2 Reads.nil
  rwa [tilt_same] at this : Calls Tryz.prog 20 #[sgV 2 (.slice A n c) 5 0 1 2 (.slice A' n' c') 3, sgV 2 (.slice (some ⟨g, 0, none⟩) 1 1) 5 0 1 2 (.slice none 0 0) 3] W (Ret W (.bool true))))
 clear hrb hR5 hV5 K8
 refine region_keeps (w0 := wa) (L := [(b5, 0, .int .i64 2), (b5, 1, .slice A n c), (b5, 2, .int .i64 5), (b5, 3, .int .i64 0), (b5, 4, .int .i64 1), (b5, 5, .int .i64 2), (b5, 6, .slice A' n' c'), (b5, 7, .int .i64 3), (b7, 0, .int .i64 1), (b7, 1, .slice A3 n3 c3), (b7, 2, .int .i64 (-1)), (b7, 3, .int .i64 0), (b7, 4, .int .i64 0), (b7, 5, .int .i64 1), (b7, 6, .slice A4 n4 c4), (b7, 7, .int .i64 0)]) (by kernel_rfl) hK (fun hHeld0 => ?_)
 refine tv 0 38 rfl rfl ?_
 try go_frame
 refine tv 1 39 rfl rfl ?_
 try go_frame
 refine tv 2 40 rfl rfl ?_
 try go_frame
 refine tv 3 41 rfl rfl ?_
 try go_frame
 refine tv 4 42 rfl rfl ?_
 try go_frame
 refine tv 5 43 rfl rfl ?_
 try go_frame
 refine tv 6 44 rfl rfl ?_
 try go_frame
 refine tv 7 45 rfl rfl ?_
 try go_frame
 refine tv 8 46 rfl rfl ?_
 try go_frame
 refine tv 9 47 rfl rfl ?_
 try go_frame
 refine tv 10 48 rfl rfl ?_
 try go_frame
 refine tv 11 49 rfl rfl ?_
 try go_frame
 refine tv 12 50 rfl rfl ?_
 try go_frame
 refine tv 13 51 rfl rfl ?_
 try go_frame
 refine tv 14 52 rfl rfl ?_
 try go_frame
 refine tv 15 53 rfl rfl ?_
 try go_frame
 refine tv 16 54 rfl rfl ?_
 try go_frame
 refine tv 17 55 rfl rfl ?_
 try go_frame
 refine tv 18 56 rfl rfl ?_
 try go_frame
 refine tv 19 57 rfl rfl ?_
 try go_frame
 refine ty [20] ?_
 refine AllReadyH.cons rfl (fun K hK => ?_) AllReadyH.nil
 go_simp
 refine hK.out _ _ (by first | exact hHeld0.alloc _ | exact (hHeld0.alloc _).drew) (fun hHeld1 => ?_)
 clear hK K; try clear hb
 try go_frame
 refine ty [21] ?_
 refine AllReadyH.cons rfl (fun K hK => ?_) AllReadyH.nil
 go_simp
 ((with_reducible refine (EQ.out _ _ (kbel (by assumption)) ?_).mono ?_); (first | exact reads_new (k := .u8) (l := [2, 3, 1, 10, 4, 2, 2, 2, 10]) 9 rfl | exact (reads_new (k := .u8) (l := [2, 3, 1, 10, 4, 2, 2, 2, 10]) 9 rfl).below (Below.refl _ _).drew); rintro e w2 ⟨rfl, hb⟩)
 refine hK.out _ _ (hHeld1.next hb) (fun hHeld2 => ?_)
 clear hK K; try clear hb
 try go_frame
 refine tv 22 60 rfl rfl ?_
 try go_frame
 refine tv 23 61 rfl rfl ?_
 try go_frame
 refine tv 24 62 rfl rfl ?_
 try go_frame
 refine tv 25 63 rfl rfl ?_
 try go_frame
 refine tv 26 64 rfl rfl ?_
 try go_frame
 refine tv 27 65 rfl rfl ?_
 try go_frame
 refine tk 28 66 rfl rfl ?_ ?_ ?_
 rotate_left
 ·intro wq hSw; obtain ⟨⟨_,_,_⟩,⟨_,_,_⟩,⟨_,_,_⟩,⟨_,_,_⟩,⟨_,_,_⟩,⟨_,_,_⟩,⟨_,_,_⟩,⟨_,_,_⟩,⟨_,_,_⟩,⟨_,_,_⟩,⟨_,_,_⟩,⟨_,_,_⟩,⟨_,_,_⟩,⟨_,_,_⟩,⟨_,_,_⟩,⟨_,_,_⟩,_⟩ := hSw.2; go_simp; (try with_reducible rfl)
 try go_frame
 refine ty [29] ?_
 refine AllReadyH.cons rfl (fun K hK => ?_) AllReadyH.nil
 go_simp
 ((with_reducible refine (TI.out _).mono ?_); rintro e w2 ⟨g9, rfl, hb, hr9⟩)
 refine hK.out _ _ (hHeld2.next hb) (fun hHeld3 => ?_)
 clear hK K; try clear hb
 try go_frame
 refine ty [30] ?_
 refine AllReadyH.cons rfl (fun K hK => ?_) AllReadyH.nil
 go_simp
 ((with_reducible refine (SM.out _ _ (kbel (by assumption)) hr9).mono ?_); rintro e w2 ⟨rfl, hb⟩)
 refine hK.out _ _ (hHeld3.next hb) (fun hHeld4 => ?_)
 clear hK K; try clear hb
 try go_frame
 refine tv 31 69 rfl rfl ?_
 try go_frame
 refine tv 32 70 rfl rfl ?_
 try go_frame
 refine tv 33 71 rfl rfl ?_
 try go_frame
 refine tv 34 72 rfl rfl ?_
 try go_frame
 refine tv 35 73 rfl rfl ?_
 try go_frame
 refine tv 36 74 rfl rfl ?_
 try go_frame
 refine tv 37 75 rfl rfl ?_
 try go_frame
 refine tk 38 76 rfl rfl ?_ ?_ ?_
 rotate_left
 ·intro wq hSw; obtain ⟨⟨_,_,_⟩,⟨_,_,_⟩,⟨_,_,_⟩,⟨_,_,_⟩,⟨_,_,_⟩,⟨_,_,_⟩,⟨_,_,_⟩,⟨_,_,_⟩,⟨_,_,_⟩,⟨_,_,_⟩,⟨_,_,_⟩,⟨_,_,_⟩,⟨_,_,_⟩,⟨_,_,_⟩,⟨_,_,_⟩,⟨_,_,_⟩,_⟩ := hSw.2; go_simp; (try with_reducible rfl)
 try go_frame
 refine tv 39 77 rfl rfl ?_
 try go_frame
 refine tv 40 78 rfl rfl ?_
 try go_frame
 refine tv 41 79 rfl rfl ?_
 try go_frame
 refine tv 42 80 rfl rfl ?_
 try go_frame
 refine tv 43 81 rfl rfl ?_
 try go_frame
 refine tk 44 82 rfl rfl ?_ ?_ ?_
 rotate_left
 ·intro wq hSw; obtain ⟨⟨_,_,_⟩,⟨_,_,_⟩,⟨_,_,_⟩,⟨_,_,_⟩,⟨_,_,_⟩,⟨_,_,_⟩,⟨_,_,_⟩,⟨_,_,_⟩,⟨_,_,_⟩,⟨_,_,_⟩,⟨_,_,_⟩,⟨_,_,_⟩,⟨_,_,_⟩,⟨_,_,_⟩,⟨_,_,_⟩,⟨_,_,_⟩,_⟩ := hSw.2; go_simp; (try with_reducible rfl)
 try go_frame
 refine tv 45 83 rfl rfl ?_
 try go_frame
 refine tv 46 84 rfl rfl ?_
 try go_frame
 refine tv 47 0 rfl rfl ?_
 try go_frame
 refine wpAnyH_done (by kernel_rfl) ?_ _
 have hHeld := hHeld4
 obtain ⟨⟨_,_,_⟩,⟨_,_,_⟩,⟨_,_,_⟩,⟨_,_,_⟩,⟨_,_,_⟩,⟨_,_,_⟩,⟨_,_,_⟩,⟨_,_,_⟩,⟨_,_,_⟩,⟨_,_,_⟩,⟨_,_,_⟩,⟨_,_,_⟩,⟨_,_,_⟩,⟨_,_,_⟩,⟨_,_,_⟩,⟨_,_,_⟩,_⟩ := hHeld.2
 all_goals
  have hH := hHeld.1
  clear hHeld
  go_wp2_with fail
  go_returns
  exact ⟨rfl, hB0.trans (hH.mono hB0.size)⟩
end Go.Proofs.YtcfidimnbamnkaaGreat.P12
