/-
 Layer 11: Part. Conditions: those written at each fact.
-/
import Derived.Test.YtcfidimnbamnkaaGreatKitV
import Derived.Test.YtcfidimnbamnkaaGreatKitW
import Derived.Maps.RangeWalk
import Derived.Test.YtcfidimnbamnkaaGreatSgM
import Derived.Test.YtcfidimnbamnkaaGreatSgN
namespace Go.Proofs.YtcfidimnbamnkaaGreat.P11
open Go.RowKit Go.Shelf Go.Proofs.YtcfidimnbamnkaaGreat.P7

attribute [local go_sem] fieldK0 fieldK1 fieldK2
abbrev fiveV (c lo hi z0 z1 : Int) : Value := .agg #[.int .i64 c, .int .i64 lo, .int .i64 hi, .int .i64 z0, .int .u64 z1]
set_option maxRecDepth 100000 in
set_option maxHeartbeats 2000000 in
theorem part1_walk (k a r n d e ta tb i j c lo hi z0 z1 code : Int) (v u : Value) (B1 B2 : Nat) (w : World) (hc : Cells [(B1, 0, .int .i64 ta), (B2, 0, .int .i64 tb)] w)
  (CL : ∀ W, Below w.heap.size w W → Calls Tryz.prog 82 #[v, .int .i64 ta, .int .i64 tb] W (Ret W (.tuple #[.int .i64 i, .int .i64 j])))
  (H : (i == j) = true ∧ c = 0 ∧ lo = 0 ∧ hi = 0 ∧ z0 = 0 ∧ z1 = 0 ∧ code = 9 ∨ (i == j) = false ∧ code = 0 ∧ (∀ W, Calls Tryz.prog 74 #[sgV k v a r n d u e] W (Ret W (kindV k))) ∧ (∀ W, Below w.heap.size w W → Calls Tryz.prog (partFn k) #[sgV k v a r n d u e, .int .i64 i, .int .i64 j] W (Ret W (fiveV c lo hi z0 z1)))) :
  Calls Tryz.prog 81 #[sgV k v a r n d u e, .pointer (some ⟨B1, 0, none⟩), .pointer (some ⟨B2, 0, none⟩)] w (Ret w (.tuple #[fiveV c lo hi z0 z1, .int .i64 code])) := by
 replace CL := Lib.hid CL
 have hK : Keeps w [(w.heap.size, 0, .int .i64 k), (w.heap.size, 1, v), (w.heap.size, 2, .int .i64 a), (w.heap.size, 3, .int .i64 r), (w.heap.size, 4, .int .i64 n), (w.heap.size, 5, .int .i64 d), (w.heap.size, 6, u), (w.heap.size, 7, .int .i64 e), (w.heap.size + 1, 0, .int .i64 0), (w.heap.size + 1, 1, .int .i64 0), (w.heap.size + 1, 2, .int .i64 0), (w.heap.size + 1, 3, .int .i64 0), (w.heap.size + 1, 4, .int .u64 0)] ((w.alloc (sgO 94 k v a r n d u e)).alloc (.cells #[.int .i64 0, .int .i64 0, .int .i64 0, .int .i64 0, .int .u64 0] 59)) := by
  refine ⟨by go_grown, ?_⟩
  simp [Cells, go_sem]
 have hBz1 := hc.1.1
 have hBz2 := hc.2.1.1
 rcases H with ⟨h1, rfl, rfl, rfl, rfl, rfl, rfl⟩ | ⟨h1, rfl, SY, VF⟩
 ·obtain ⟨⟨kz0, kc0, kf0⟩, ⟨kz1, kc1, kf1⟩, _⟩ := hc
  go_enter Tryz.func81, Tryz.ntmps81
  go_wp2_with fail
  refine (CL.out _ hK.1).mono ?_
  rintro e w1 ⟨rfl, hb⟩
  replace hK := hK.next hb
  clear hb kz0 kc0 kf0 kz1 kc1 kf1
  have hN : Keeps w [(w.heap.size + 1, 0, .int .i64 0), (w.heap.size + 1, 1, .int .i64 0), (w.heap.size + 1, 2, .int .i64 0), (w.heap.size + 1, 3, .int .i64 0), (w.heap.size + 1, 4, .int .u64 0)] w1 := hK.sub (by simp)
  obtain ⟨hB,⟨_,x0,_⟩,⟨_,x1,_⟩,⟨_,x2,_⟩,⟨_,x3,_⟩,⟨_,x4,_⟩,_⟩ := hN
  obtain ⟨d0, d1, d2, d3, d4⟩ := set5 (u0 := .int .i64 0) (u1 := .int .i64 0) (u2 := .int .i64 0) (u3 := .int .i64 0) (u4 := .int .u64 0) x0 x1 x2 x3 x4
  have hB2 : ∀ u0 u1 u2 u3 u4, Below w.heap.size w (((((w1.setCell ⟨w.heap.size + 1, 0, none⟩ u0).setCell ⟨w.heap.size + 1, 1, none⟩ u1).setCell ⟨w.heap.size + 1, 2, none⟩ u2).setCell ⟨w.heap.size + 1, 3, none⟩ u3).setCell ⟨w.heap.size + 1, 4, none⟩ u4) := fun _ _ _ _ _ => ((((hB.setCell (Nat.le_succ _) _).setCell (Nat.le_succ _) _).setCell (Nat.le_succ _) _).setCell (Nat.le_succ _) _).setCell (Nat.le_succ _) _
  clear hK
  go_wp2_with fail
  refine bodyPost_ret (v := .tuple #[fiveV 0 0 0 0 0, .int .i64 9]) (by simp [results, Tryz.results81, go_sem, d0, d1, d2, d3, d4]) rfl ?_
  exact ⟨rfl, hB2 _ _ _ _ _⟩
 ·replace SY := Lib.hid SY
  replace VF := Lib.hid VF
  have eK := part_enters k
  obtain ⟨⟨kz0, kc0, kf0⟩, ⟨kz1, kc1, kf1⟩, _⟩ := hc
  go_enter Tryz.func81, Tryz.ntmps81
  go_wp2_with fail
  refine (CL.out _ hK.1).mono ?_
  rintro e w1 ⟨rfl, hb⟩
  replace hK := hK.next hb
  clear hb kz0 kc0 kf0 kz1 kc1 kf1
  have hL : Keeps w [(w.heap.size, 0, .int .i64 k), (w.heap.size, 1, v), (w.heap.size, 2, .int .i64 a), (w.heap.size, 3, .int .i64 r), (w.heap.size, 4, .int .i64 n), (w.heap.size, 5, .int .i64 d), (w.heap.size, 6, u), (w.heap.size, 7, .int .i64 e)] w1 := hK.sub (by simp)
  have hN : Keeps w [(w.heap.size + 1, 0, .int .i64 0), (w.heap.size + 1, 1, .int .i64 0), (w.heap.size + 1, 2, .int .i64 0), (w.heap.size + 1, 3, .int .i64 0), (w.heap.size + 1, 4, .int .u64 0)] w1 := hK.sub (by simp)
  clear hK
  go_wp2_with fail
  refine region_keepsB (w0 := w) (L := [(w.heap.size, 0, .int .i64 k), (w.heap.size, 1, v), (w.heap.size, 2, .int .i64 a), (w.heap.size, 3, .int .i64 r), (w.heap.size, 4, .int .i64 n), (w.heap.size, 5, .int .i64 d), (w.heap.size, 6, u), (w.heap.size, 7, .int .i64 e)]) (M := [(w.heap.size + 1, 0, .int .i64 0), (w.heap.size + 1, 1, .int .i64 0), (w.heap.size + 1, 2, .int .i64 0), (w.heap.size + 1, 3, .int .i64 0), (w.heap.size + 1, 4, .int .u64 0)]) (by kernel_rfl) hL hN (fun hHeld0 hT0 => ?_)
  refine tk 0 21 rfl rfl ?_ ?_ ?_
  rotate_left
  ·intro wq hSw; obtain ⟨⟨_,_,_⟩,⟨_,_,_⟩,⟨_,_,_⟩,⟨_,_,_⟩,⟨_,_,_⟩,⟨_,_,_⟩,⟨_,_,_⟩,⟨_,_,_⟩,_⟩ := hSw.2; go_simp; (try with_reducible rfl)
  try go_frame
  refine tk 3 24 rfl rfl ?_ ?_ ?_
  rotate_left
  ·intro wq hSw; obtain ⟨⟨_,_,_⟩,⟨_,_,_⟩,⟨_,_,_⟩,⟨_,_,_⟩,⟨_,_,_⟩,⟨_,_,_⟩,⟨_,_,_⟩,⟨_,_,_⟩,_⟩ := hSw.2; go_simp; (try with_reducible rfl)
  try go_frame
  refine tv 4 25 rfl rfl ?_
  try go_frame
  refine tv 5 26 rfl rfl ?_
  try go_frame
  refine tw 1 rfl fun K hK => ?_
  go_simp
  ((with_reducible refine (SY.out _).mono ?_); rintro e w2 ⟨rfl, hb⟩)
  refine hK.out _ _ (hHeld0.next hb) (fun hHeld1 => ?_)
  replace hT0 := hT0.next hb
  clear hK K; try clear hb
  try go_frame
  refine tv 2 23 rfl rfl ?_
  try go_frame
  refine tw 6 rfl fun K hK => ?_
  go_simp
  ((with_reducible refine (VF.out _ (by exact kbel (by assumption))).mono ?_); rintro e w3 ⟨rfl, hb⟩)
  refine hK.out _ _ (hHeld1.next hb) (fun hHeld2 => ?_)
  replace hT0 := hT0.next hb
  clear hK K; try clear hb
  try go_frame
  refine tw 7 rfl fun K hK => ?_
  obtain ⟨⟨t0z0,t0c0,t0f0⟩,⟨t0z1,t0c1,t0f1⟩,⟨t0z2,t0c2,t0f2⟩,⟨t0z3,t0c3,t0f3⟩,⟨t0z4,t0c4,t0f4⟩,_⟩ := hT0.2; (try simp at t0z0); (try simp at t0c0); (try simp at t0f0); (try simp at t0z1); (try simp at t0c1); (try simp at t0f1); (try simp at t0z2); (try simp at t0c2); (try simp at t0f2); (try simp at t0z3); (try simp at t0c3); (try simp at t0f3); (try simp at t0z4); (try simp at t0c4); (try simp at t0f4)
  go_simp
  refine hK.out _ _ (by first | exact hHeld2.alloc _ | (repeat (first | (with_reducible exact hHeld2) | (with_reducible exact (Keeps.undrewR hHeld2)) | (refine Keeps.set ?_ (by simp <;> omega) (by simp <;> omega) _) | (with_reducible refine Keeps.drew ?_)))) (fun hHeld3 => ?_)
  clear hK K; try clear hb
  try go_frame
  refine tv 8 5 rfl rfl ?_
  try go_frame
  refine wpAnyH_done (by kernel_rfl) ?_ _
  have hHeld := hHeld3
  obtain ⟨⟨kz0,kc0,kf0⟩,⟨kz1,kc1,kf1⟩,⟨kz2,kc2,kf2⟩,⟨kz3,kc3,kf3⟩,⟨kz4,kc4,kf4⟩,⟨kz5,kc5,kf5⟩,⟨kz6,kc6,kf6⟩,⟨kz7,kc7,kf7⟩,_⟩ := hHeld.2
  all_goals
   have hB := hHeld.1
   obtain ⟨d0, d1, d2, d3, d4⟩ := set5 (u0 := .int .i64 c) (u1 := .int .i64 lo) (u2 := .int .i64 hi) (u3 := .int .i64 z0) (u4 := .int .u64 z1) t0c0 t0c1 t0c2 t0c3 t0c4
   clear hHeld hT0
   (try clear hHeld0); (try clear hHeld1); (try clear hHeld2); (try clear hHeld3); (try clear hHeld4); (try clear hHeld5); (try clear hHeld6); (try clear hHeld7); (try clear hHeld8); (try clear hHeld9); (try clear hHeld10); (try clear hHeld11); (try clear hHeld12); (try clear hHeld13); (try clear hT0); (try clear kz0 kc0 kf0); (try clear kz1 kc1 kf1); (try clear kz2 kc2 kf2); (try clear kz3 kc3 kf3); (try clear kz4 kc4 kf4); (try clear kz5 kc5 kf5); (try clear kz6 kc6 kf6); (try clear kz7 kc7 kf7); (try clear t0z0 t0c0 t0f0); (try clear t0z1 t0c1 t0f1)
   go_wp2_with fail
   refine bodyPost_ret (v := .tuple #[fiveV c lo hi z0 z1, .int .i64 0]) (by simp [results, Tryz.results81, go_sem, d0, d1, d2, d3, d4]) rfl ?_
   exact ⟨rfl, hB⟩
set_option maxRecDepth 100000 in
set_option maxHeartbeats 2000000 in
theorem ofP_walk (k a r n d e c lo hi z0 z1 code : Int) (v u : Value) (cs1 cs2 : Value) (w : World) (H : code = 210 ∧ c = 0 ∧ lo = 0 ∧ hi = 0 ∧ z0 = 0 ∧ z1 = 0 ∧ (∀ W, Below w.heap.size w W → Calls Tryz.prog 17 #[sgV k v a r n d u e] W (Ret W (.int .i64 210))) ∨
   (∀ W, Below w.heap.size w W → Calls Tryz.prog 17 #[sgV k v a r n d u e] W (Ret W (.int .i64 0))) ∧ (∀ W, Below w.heap.size w W → Calls Tryz.prog 81 #[sgV k v a r n d u e, cs1, cs2] W (Ret W (.tuple #[fiveV c lo hi z0 z1, .int .i64 code])))) :
  Calls Tryz.prog 80 #[sgV k v a r n d u e, .func (.func 81) #[] #[cs1, cs2]] w (Ret w (.tuple #[fiveV c lo hi z0 z1, .int .i64 code])) := by
 have hK : Keeps w [(w.heap.size, 0, .int .i64 k), (w.heap.size, 1, v), (w.heap.size, 2, .int .i64 a), (w.heap.size, 3, .int .i64 r), (w.heap.size, 4, .int .i64 n), (w.heap.size, 5, .int .i64 d), (w.heap.size, 6, u), (w.heap.size, 7, .int .i64 e), (w.heap.size + 1, 0, .int .i64 0), (w.heap.size + 1, 1, .int .i64 0), (w.heap.size + 1, 2, .int .i64 0), (w.heap.size + 1, 3, .int .i64 0), (w.heap.size + 1, 4, .int .u64 0)] ((w.alloc (sgO 27 k v a r n d u e)).alloc (.cells #[.int .i64 0, .int .i64 0, .int .i64 0, .int .i64 0, .int .u64 0] 59)) := by
  refine ⟨by go_grown, ?_⟩
  simp [Cells, go_sem]
 rcases H with ⟨rfl, rfl, rfl, rfl, rfl, rfl, CK⟩ | ⟨CK, TL⟩
 ·replace CK := Lib.hid CK
  go_enter Tryz.func80, Tryz.ntmps80
  go_wp2_with fail
  refine (CK.out _ hK.1).mono ?_
  rintro e w1 ⟨rfl, hb⟩
  replace hK := hK.next hb
  clear hb
  have hN : Keeps w [(w1.heap.size, 0, .int .i64 0), (w1.heap.size, 1, .int .i64 0), (w1.heap.size, 2, .int .i64 0), (w1.heap.size, 3, .int .i64 0), (w1.heap.size, 4, .int .u64 0), (w.heap.size + 1, 0, .int .i64 0), (w.heap.size + 1, 1, .int .i64 0), (w.heap.size + 1, 2, .int .i64 0), (w.heap.size + 1, 3, .int .i64 0), (w.heap.size + 1, 4, .int .u64 0)] (w1.alloc (.cells #[.int .i64 0, .int .i64 0, .int .i64 0, .int .i64 0, .int .u64 0] 59)) :=
   Keeps.app (l := [(w1.heap.size, 0, .int .i64 0), (w1.heap.size, 1, .int .i64 0), (w1.heap.size, 2, .int .i64 0), (w1.heap.size, 3, .int .i64 0), (w1.heap.size, 4, .int .u64 0)]) ⟨(hK.alloc _).1, by simp [Cells, go_sem]⟩ ((hK.alloc _).sub (by simp))
  have hlz : w.heap.size + 1 < w1.heap.size := by obtain ⟨_, _, _, _, _, _, _, _, _, ⟨h1, _, _⟩, _⟩ := hK; exact h1
  clear hK
  go_upto_region 4 with (fail)
  generalize w1.alloc (.cells #[.int .i64 0, .int .i64 0, .int .i64 0, .int .i64 0, .int .u64 0] 59) = w3 at *
  generalize w1.heap.size = g at *
  obtain ⟨⟨kz0,kc0,kf0⟩,⟨kz1,kc1,kf1⟩,⟨kz2,kc2,kf2⟩,⟨kz3,kc3,kf3⟩,⟨kz4,kc4,kf4⟩,⟨kz5,kc5,kf5⟩,⟨kz6,kc6,kf6⟩,⟨kz7,kc7,kf7⟩,⟨kz8,kc8,kf8⟩,⟨kz9,kc9,kf9⟩,_⟩ := hN.2
  obtain ⟨d0, d1, d2, d3, d4⟩ := set5 (u0 := .int .i64 0) (u1 := .int .i64 0) (u2 := .int .i64 0) (u3 := .int .i64 0) (u4 := .int .u64 0) kc5 kc6 kc7 kc8 kc9
  have hB := hN.1
  have hB2 : ∀ u0 u1 u2 u3 u4, Below w.heap.size w (((((w3.setCell ⟨w.heap.size + 1, 0, none⟩ u0).setCell ⟨w.heap.size + 1, 1, none⟩ u1).setCell ⟨w.heap.size + 1, 2, none⟩ u2).setCell ⟨w.heap.size + 1, 3, none⟩ u3).setCell ⟨w.heap.size + 1, 4, none⟩ u4) := fun _ _ _ _ _ => ((((hB.setCell (Nat.le_succ _) _).setCell (Nat.le_succ _) _).setCell (Nat.le_succ _) _).setCell (Nat.le_succ _) _).setCell (Nat.le_succ _) _
  replace hB2 := Lib.hid hB2
  clear hN hB
  go_wp2_with fail
  refine bodyPost_ret (v := .tuple #[fiveV 0 0 0 0 0, .int .i64 210]) (by simp [results, Tryz.results80, go_sem, d0, d1, d2, d3, d4]) rfl ?_
  exact ⟨rfl, hB2.out _ _ _ _ _⟩
 ·replace CK := Lib.hid CK
  replace TL := Lib.hid TL
  go_enter Tryz.func80, Tryz.ntmps80
  go_wp2_with fail
  refine (CK.out _ hK.1).mono ?_
  rintro e w1 ⟨rfl, hb⟩
  replace hK := hK.next hb
  clear hb
  obtain ⟨⟨kz0,kc0,kf0⟩,⟨kz1,kc1,kf1⟩,⟨kz2,kc2,kf2⟩,⟨kz3,kc3,kf3⟩,⟨kz4,kc4,kf4⟩,⟨kz5,kc5,kf5⟩,⟨kz6,kc6,kf6⟩,⟨kz7,kc7,kf7⟩,⟨kz8,kc8,kf8⟩,⟨kz9,kc9,kf9⟩,⟨kz10,kc10,kf10⟩,⟨kz11,kc11,kf11⟩,⟨kz12,kc12,kf12⟩,_⟩ := hK.2
  go_wp2_with fail
  refine (TL.out _ hK.1).mono ?_
  rintro e w2 ⟨rfl, hb⟩
  replace hK := hK.next hb
  clear hb
  (try clear kz0 kc0 kf0); (try clear kz1 kc1 kf1); (try clear kz2 kc2 kf2); (try clear kz3 kc3 kf3); (try clear kz4 kc4 kf4); (try clear kz5 kc5 kf5); (try clear kz6 kc6 kf6); (try clear kz7 kc7 kf7); (try clear kz8 kc8 kf8); (try clear kz9 kc9 kf9); (try clear kz10 kc10 kf10); (try clear kz11 kc11 kf11); (try clear kz12 kc12 kf12)
  have hN : Keeps w [(w.heap.size + 1, 0, .int .i64 0), (w.heap.size + 1, 1, .int .i64 0), (w.heap.size + 1, 2, .int .i64 0), (w.heap.size + 1, 3, .int .i64 0), (w.heap.size + 1, 4, .int .u64 0)] w2 := hK.sub (by simp)
  obtain ⟨hB,⟨_,x0,_⟩,⟨_,x1,_⟩,⟨_,x2,_⟩,⟨_,x3,_⟩,⟨_,x4,_⟩,_⟩ := hN
  obtain ⟨d0, d1, d2, d3, d4⟩ := set5 (u0 := .int .i64 c) (u1 := .int .i64 lo) (u2 := .int .i64 hi) (u3 := .int .i64 z0) (u4 := .int .u64 z1) x0 x1 x2 x3 x4
  have hB2 : ∀ u0 u1 u2 u3 u4, Below w.heap.size w (((((w2.setCell ⟨w.heap.size + 1, 0, none⟩ u0).setCell ⟨w.heap.size + 1, 1, none⟩ u1).setCell ⟨w.heap.size + 1, 2, none⟩ u2).setCell ⟨w.heap.size + 1, 3, none⟩ u3).setCell ⟨w.heap.size + 1, 4, none⟩ u4) := fun _ _ _ _ _ => ((((hB.setCell (Nat.le_succ _) _).setCell (Nat.le_succ _) _).setCell (Nat.le_succ _) _).setCell (Nat.le_succ _) _).setCell (Nat.le_succ _) _
  clear hK
  go_wp2_with fail
  refine bodyPost_ret (v := .tuple #[fiveV c lo hi z0 z1, .int .i64 code]) (by simp [results, Tryz.results80, go_sem, d0, d1, d2, d3, d4]) rfl ?_
  exact ⟨rfl, hB2 _ _ _ _ _⟩
def partsOf (s : Sg) (a b : Int) : List Int := if segB s then valsIn s a b else []
def partC (s : Sg) (a b : Int) : Int := if segB s then (if valsIn s a b = [] then 9 else 0) else 210
set_option maxRecDepth 100000 in
set_option maxHeartbeats 2000000 in
theorem part_walk (k a r n d e ta tb c lo hi z0 z1 code : Int) (v u : Value) (w : World)
  (OF : ∀ W, Below w.heap.size w W → Cells [(w.heap.size + 1, 0, .int .i64 ta), (w.heap.size + 2, 0, .int .i64 tb)] W → Calls Tryz.prog 80 #[sgV k v a r n d u e, .func (.func 81) #[] #[.pointer (some ⟨w.heap.size + 1, 0, none⟩), .pointer (some ⟨w.heap.size + 2, 0, none⟩)]] W (Ret W (.tuple #[fiveV c lo hi z0 z1, .int .i64 code]))) :
  Calls Tryz.prog 31 #[sgV k v a r n d u e, .int .i64 ta, .int .i64 tb] w (Ret w (.tuple #[fiveV c lo hi z0 z1, .int .i64 code])) := by
 replace OF := Lib.hid OF
 have hK : Keeps w [(w.heap.size + 3, 0, .int .i64 0), (w.heap.size + 3, 1, .int .i64 0), (w.heap.size + 3, 2, .int .i64 0), (w.heap.size + 3, 3, .int .i64 0), (w.heap.size + 3, 4, .int .u64 0), (w.heap.size + 1, 0, .int .i64 ta), (w.heap.size + 2, 0, .int .i64 tb)] ((((w.alloc (sgO 27 k v a r n d u e)).alloc (.cells #[.int .i64 ta] 2)).alloc (.cells #[.int .i64 tb] 2)).alloc (.cells #[.int .i64 0, .int .i64 0, .int .i64 0, .int .i64 0, .int .u64 0] 59)) := by
  refine ⟨by go_grown, ?_⟩
  simp [Cells, go_sem]
 have hmf := makes_func
 go_enter Tryz.func31, Tryz.ntmps31
 go_wp2_with fail
 refine (OF.out _ hK.1 hK.2.2.2.2.2.2).mono ?_
 rintro e w2 ⟨rfl, hb⟩
 replace hK := hK.next hb
 clear hb
 have hN : Keeps w [(w.heap.size + 3, 0, .int .i64 0), (w.heap.size + 3, 1, .int .i64 0), (w.heap.size + 3, 2, .int .i64 0), (w.heap.size + 3, 3, .int .i64 0), (w.heap.size + 3, 4, .int .u64 0)] w2 := hK.sub (by simp)
 obtain ⟨hB,⟨_,x0,_⟩,⟨_,x1,_⟩,⟨_,x2,_⟩,⟨_,x3,_⟩,⟨_,x4,_⟩,_⟩ := hN
 obtain ⟨d0, d1, d2, d3, d4⟩ := set5 (u0 := .int .i64 c) (u1 := .int .i64 lo) (u2 := .int .i64 hi) (u3 := .int .i64 z0) (u4 := .int .u64 z1) x0 x1 x2 x3 x4
 have hB2 : ∀ u0 u1 u2 u3 u4, Below w.heap.size w (((((w2.setCell ⟨w.heap.size + 3, 0, none⟩ u0).setCell ⟨w.heap.size + 3, 1, none⟩ u1).setCell ⟨w.heap.size + 3, 2, none⟩ u2).setCell ⟨w.heap.size + 3, 3, none⟩ u3).setCell ⟨w.heap.size + 3, 4, none⟩ u4) := fun _ _ _ _ _ => ((((hB.setCell (by simp) _).setCell (by simp) _).setCell (by simp) _).setCell (by simp) _).setCell (by simp) _
 clear hK
 go_wp2_with fail
 refine bodyPost_ret (v := .tuple #[fiveV c lo hi z0 z1, .int .i64 code]) (by simp [results, Tryz.results31, go_sem, d0, d1, d2, d3, d4]) rfl ?_
 exact ⟨rfl, hB2 _ _ _ _ _⟩
theorem part_any (s : Sg) (hR : s.R.length ≤ 1000000) (hV : s.V.length ≤ 1000000) (a b : Int) (v u : Value) (w : World) (h : ReadsR w v s.R) (hu : Reads .i64 w u s.V) :
  Calls Tryz.prog 31 #[sgV s.k v s.a s.r s.n s.d u s.e, .int .i64 a, .int .i64 b] w (Ret w (.tuple #[partL (partsOf s a b), .int .i64 (partC s a b)])) := by
 have CK := fun W (hb : Below w.heap.size w W) => check_any s hR hV v u W (h.below hb) (hu.below hb)
 rw [part_cells]
 refine part_walk _ _ _ _ _ _ _ _ _ _ _ _ _ _ _ _ _ (fun W hW hc => ofP_walk _ _ _ _ _ _ _ _ _ _ _ _ _ _ _ _ _ ?_)
 cases g : segB s
 ·rw [g] at CK
  have e1 : partsOf s a b = [] := by unfold partsOf; rw [g]; rfl
  have e2 : partC s a b = 210 := by unfold partC; rw [g]; rfl
  rw [e1, e2]
  exact .inl ⟨rfl, rfl, rfl, rfl, zero_words.1, zero_words.2, fun W' hW' => CK W' (under hW hW')⟩
 ·rw [g] at CK
  have e1 : partsOf s a b = valsIn s a b := by unfold partsOf; rw [g]; rfl
  have hok := ((segB_iff s).1 g).1
  have hT := times_ok hok
  have hcut := valsIn_cut g a b
  rw [e1]
  refine .inr ⟨fun W' hW' => CK W' (under hW hW'), fun W' hW' => ?_⟩
  have hbw := under hW hW'
  have hlo : clipL s.R a = (belowN (timesR s.R) a : Int) := by unfold clipL; rw [hok]; rfl
  have hhi : clipH s.R a b = ((max (belowN (timesR s.R) a) (uptoN (timesR s.R) b) : Nat) : Int) := by unfold clipH; rw [hok, if_pos rfl]; omega
  have n1 := belowN_le (timesR s.R) a
  have n2 := uptoN_le (timesR s.R) b
  have hvl := vals_length g
  generalize belowN (timesR s.R) a = i at *
  generalize uptoN (timesR s.R) b = j at *
  refine part1_walk s.k s.a s.r s.n s.d s.e a b (clipL s.R a) (clipH s.R a b) _ _ _ _ _ _ v u _ _ W' (hc.next hW') (fun W2 h2 => clipA_any s.R hR a b v W2 (h.below (under hbw h2))) ?_
  rw [hlo, hhi]
  by_cases g2 : max i j = i
  ·have e2 : valsIn s a b = [] := by rw [hcut, g2]; unfold cutL; simp
   rw [e2]
   exact .inl ⟨by rw [g2]; simp, rfl, rfl, rfl, zero_words.1, zero_words.2, by unfold partC; rw [g, if_pos rfl, e2, if_pos rfl]⟩
  ·have hij : i < max i j := by omega
   have hne : valsIn s a b ≠ [] := by
    intro e
    have := cutL_length (l := vals s) (i := i) (j := max i j) (by omega)
    rw [← hcut, e] at this
    simp at this; omega
   refine .inr ⟨by simp; omega, by unfold partC; rw [g, if_pos rfl, if_neg hne], fun W2 => says_any s g v u W2, fun W2 h2 => ?_⟩
   have := partK_any s g i (max i j) hij (by omega) v u W2 (h.below (under hbw h2)) (hu.below (under hbw h2))
   rw [← hcut, part_cells] at this
   exact this
end Go.Proofs.YtcfidimnbamnkaaGreat.P11
