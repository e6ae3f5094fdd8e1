/-
  Layer 11: the law SegParted holds of every input. Conditions: those of the law's row.
-/
import Derived.Test.YtgmflnfdmcphnaaGreatSgT
namespace Go.Proofs.YtgmflnfdmcphnaaGreat.P11
open Go.RowKit Go.Shelf Go.Proofs.YtgmflnfdmcphnaaGreat.P7

abbrev CallP (s : Sg) (x y c l h z0 z1 code : Int) : Prop := ∀ v u W, ReadsR W v s.R → Reads .i64 W u s.V → Calls Tryz.prog 28 #[sgOf s v u, .int .i64 x, .int .i64 y] W (Ret W (.tuple #[fiveV c l h z0 z1, .int .i64 code]))
theorem callP (s : Sg) (hR : s.R.length ≤ 1000000) (hV : s.V.length ≤ 1000000) (x y : Int) : CallP s x y (partsOf s x y).length (minL (partsOf s x y)) (maxL (partsOf s x y)) (rhi (sumL (partsOf s x y))) (rlo (sumL (partsOf s x y))) (partC s x y) :=
  fun v u W h hu => part_any s hR hV x y v u W h hu
theorem own_got {w : World} {s : Sg} {e : Ending} {w' : World} (h : OwnS w s e w') : ∃ A1 n1 c1 A2 n2 c2, e = .returned (sgOf s (.slice A1 n1 c1) (.slice A2 n2 c2)) ∧ Below w.heap.size w w' ∧ Own2 w' w.heap.size s (.slice A1 n1 c1) (.slice A2 n2 c2) := by
  obtain ⟨v, u, he, hb, ho⟩ := h
  obtain ⟨A1, n1, c1, rfl⟩ := own_sl ho.runs
  obtain ⟨A2, n2, c2, rfl⟩ := own_sl ho.raws
  exact ⟨A1, n1, c1, A2, n2, c2, he, hb, ho⟩
set_option maxRecDepth 100000 in
set_option maxHeartbeats 4000000 in
theorem parted_other (x : Sg) (v0 u0 : Value) (s : Sg) (a m b : Int) (w : World) (WK : Hid (∀ W, Calls Tryz.prog 11 #[] W (Ret W (.bool true)))) (OW : Hid (∀ W, Below w.heap.size w W → Calls Tryz.prog 12 #[sgOf x v0 u0] W (OwnS W s))) (H : (decide (m < a) = true ∨ decide (m < a) = false ∧ decide (b ≤ m) = true)) (p0 p1 p2 p3 p4 c1 : Int) (hc : c1 = 0 ∨ c1 = 9 ∨ c1 = 210) (PT : Hid (CallP s b a p0 p1 p2 p3 p4 c1)) :
    Calls Tryz.prog 9 #[sgOf x v0 u0, .int .i64 a, .int .i64 m, .int .i64 b] w (Ret w (.bool true)) := by
  have PTS := PT
  clear PT
  have key : ∀ B : Bool, (decide (a ≤ b) = B) → Calls Tryz.prog 9 #[sgOf x v0 u0, .int .i64 a, .int .i64 m, .int .i64 b] w (Ret w (.bool true)) := by
    intro B hB
    rcases H with h1 | ⟨h1, h2⟩
    · skip
      rcases hc with rfl | rfl | rfl
      all_goals
        cases B
        all_goals
          go_enter Tryz.func9, Tryz.ntmps9
          go_wp2_with fail
          refine (WK.out _).mono ?_
          rintro e w1 ⟨rfl, hb⟩
          have hK := new_seg (Below.refl w.heap.size w) 27 x.k v0 x.a x.r x.n x.d u0 x.e
          replace hK := hK.next hb
          clear hb
          obtain ⟨⟨kz0, kc0, kf0⟩, ⟨kz1, kc1, kf1⟩, ⟨kz2, kc2, kf2⟩, ⟨kz3, kc3, kf3⟩, ⟨kz4, kc4, kf4⟩, ⟨kz5, kc5, kf5⟩, ⟨kz6, kc6, kf6⟩, ⟨kz7, kc7, kf7⟩, _⟩ := hK.2
          go_wp2_with fail
          refine (OW.out _ hK.1).mono ?_
          rintro e w2 hq
          obtain ⟨B1, n1, c1, B2, n2, c2, rfl, hb, ho⟩ := own_got hq
          have hB2 := under hK.1 hb
          clear hb hK hq
          (try clear hHeld0); (try clear hHeld1); (try clear hHeld2); (try clear hHeld3); (try clear hHeld4); (try clear hHeld5); (try clear hHeld6); (try clear hHeld7); (try clear hHeld8); (try clear hHeld9); (try clear hHeld10); (try clear hHeld11); (try clear hHeld12); (try clear hHeld13); (try clear hT0); (try clear kz0 kc0 kf0); (try clear kz1 kc1 kf1); (try clear kz2 kc2 kf2); (try clear kz3 kc3 kf3); (try clear kz4 kc4 kf4); (try clear kz5 kc5 kf5); (try clear kz6 kc6 kf6); (try clear kz7 kc7 kf7); (try clear kz8 kc8 kf8); (try clear kz9 kc9 kf9); (try clear kz10 kc10 kf10); (try clear kz11 kc11 kf11); (try clear kz12 kc12 kf12); (try clear kz13 kc13 kf13); (try clear t0z0 t0c0 t0f0); (try clear t0z1 t0c1 t0f1)
          obtain ⟨k, R, sa, sr, sn, sd, V, se⟩ := s
          simp only [sgOf] at PTS ⊢
          have hN := new_seg hB2 27 k (.slice B1 n1 c1) sa sr sn sd (.slice B2 n2 c2) se
          replace ho := ho.below (below_alloc w2 (sgO 27 k (.slice B1 n1 c1) sa sr sn sd (.slice B2 n2 c2) se))
          clear hB2
          go_wp2_with fail
          refine (PTS.out _ _ _ ho.readsR ho.reads).mono ?_
          rintro e w3 ⟨rfl, hb⟩
          have hB3 := under hN.1 hb
          clear hN ho hb PTS
          go_wp2_with fail
          go_ret
          exact ⟨rfl, hB3.alloc hB3.size _⟩
    · skip
      rcases hc with rfl | rfl | rfl
      all_goals
        cases B
        all_goals
          go_enter Tryz.func9, Tryz.ntmps9
          go_wp2_with fail
          refine (WK.out _).mono ?_
          rintro e w1 ⟨rfl, hb⟩
          have hK := new_seg (Below.refl w.heap.size w) 27 x.k v0 x.a x.r x.n x.d u0 x.e
          replace hK := hK.next hb
          clear hb
          obtain ⟨⟨kz0, kc0, kf0⟩, ⟨kz1, kc1, kf1⟩, ⟨kz2, kc2, kf2⟩, ⟨kz3, kc3, kf3⟩, ⟨kz4, kc4, kf4⟩, ⟨kz5, kc5, kf5⟩, ⟨kz6, kc6, kf6⟩, ⟨kz7, kc7, kf7⟩, _⟩ := hK.2
          go_wp2_with fail
          refine (OW.out _ hK.1).mono ?_
          rintro e w2 hq
          obtain ⟨B1, n1, c1, B2, n2, c2, rfl, hb, ho⟩ := own_got hq
          have hB2 := under hK.1 hb
          clear hb hK hq
          (try clear hHeld0); (try clear hHeld1); (try clear hHeld2); (try clear hHeld3); (try clear hHeld4); (try clear hHeld5); (try clear hHeld6); (try clear hHeld7); (try clear hHeld8); (try clear hHeld9); (try clear hHeld10); (try clear hHeld11); (try clear hHeld12); (try clear hHeld13); (try clear hT0); (try clear kz0 kc0 kf0); (try clear kz1 kc1 kf1); (try clear kz2 kc2 kf2); (try clear kz3 kc3 kf3); (try clear kz4 kc4 kf4); (try clear kz5 kc5 kf5); (try clear kz6 kc6 kf6); (try clear kz7 kc7 kf7); (try clear kz8 kc8 kf8); (try clear kz9 kc9 kf9); (try clear kz10 kc10 kf10); (try clear kz11 kc11 kf11); (try clear kz12 kc12 kf12); (try clear kz13 kc13 kf13); (try clear t0z0 t0c0 t0f0); (try clear t0z1 t0c1 t0f1)
          obtain ⟨k, R, sa, sr, sn, sd, V, se⟩ := s
          simp only [sgOf] at PTS ⊢
          have hN := new_seg hB2 27 k (.slice B1 n1 c1) sa sr sn sd (.slice B2 n2 c2) se
          replace ho := ho.below (below_alloc w2 (sgO 27 k (.slice B1 n1 c1) sa sr sn sd (.slice B2 n2 c2) se))
          clear hB2
          go_wp2_with fail
          refine (PTS.out _ _ _ ho.readsR ho.reads).mono ?_
          rintro e w3 ⟨rfl, hb⟩
          have hB3 := under hN.1 hb
          clear hN ho hb PTS
          go_wp2_with fail
          go_ret
          exact ⟨rfl, hB3.alloc hB3.size _⟩
  exact key _ rfl
set_option maxRecDepth 100000 in
set_option maxHeartbeats 4000000 in
theorem parted_none (x : Sg) (v0 u0 : Value) (s : Sg) (a m b : Int) (w : World) (WK : Hid (∀ W, Calls Tryz.prog 11 #[] W (Ret W (.bool true)))) (OW : Hid (∀ W, Below w.heap.size w W → Calls Tryz.prog 12 #[sgOf x v0 u0] W (OwnS W s))) (h1 : decide (m < a) = false) (h2 : decide (b ≤ m) = false) (hm : wrap64 (m + 1) = m + 1) (p0 p1 p2 p3 p4 q0 q1 q2 q3 q4 r0 r1 r2 r3 r4 : Int) (PTS : Hid (CallP s a m p0 p1 p2 p3 p4 210)) (PT2 : Hid (CallP s (m + 1) b q0 q1 q2 q3 q4 210)) (PT3 : Hid (CallP s a b r0 r1 r2 r3 r4 210)) :
    Calls Tryz.prog 9 #[sgOf x v0 u0, .int .i64 a, .int .i64 m, .int .i64 b] w (Ret w (.bool true)) := by
  go_enter Tryz.func9, Tryz.ntmps9
  go_wp2_with fail
  refine (WK.out _).mono ?_
  rintro e w1 ⟨rfl, hb⟩
  have hK := new_seg (Below.refl w.heap.size w) 27 x.k v0 x.a x.r x.n x.d u0 x.e
  replace hK := hK.next hb
  clear hb
  obtain ⟨⟨kz0, kc0, kf0⟩, ⟨kz1, kc1, kf1⟩, ⟨kz2, kc2, kf2⟩, ⟨kz3, kc3, kf3⟩, ⟨kz4, kc4, kf4⟩, ⟨kz5, kc5, kf5⟩, ⟨kz6, kc6, kf6⟩, ⟨kz7, kc7, kf7⟩, _⟩ := hK.2
  go_wp2_with fail
  refine (OW.out _ hK.1).mono ?_
  rintro e w2 hq
  obtain ⟨B1, n1, d1, B2, n2, d2, rfl, hb, ho⟩ := own_got hq
  have hB2 := under hK.1 hb
  clear hb hK hq
  (try clear hHeld0); (try clear hHeld1); (try clear hHeld2); (try clear hHeld3); (try clear hHeld4); (try clear hHeld5); (try clear hHeld6); (try clear hHeld7); (try clear hHeld8); (try clear hHeld9); (try clear hHeld10); (try clear hHeld11); (try clear hHeld12); (try clear hHeld13); (try clear hT0); (try clear kz0 kc0 kf0); (try clear kz1 kc1 kf1); (try clear kz2 kc2 kf2); (try clear kz3 kc3 kf3); (try clear kz4 kc4 kf4); (try clear kz5 kc5 kf5); (try clear kz6 kc6 kf6); (try clear kz7 kc7 kf7); (try clear kz8 kc8 kf8); (try clear kz9 kc9 kf9); (try clear kz10 kc10 kf10); (try clear kz11 kc11 kf11); (try clear kz12 kc12 kf12); (try clear kz13 kc13 kf13); (try clear t0z0 t0c0 t0f0); (try clear t0z1 t0c1 t0f1)
  obtain ⟨k, R, sa, sr, sn, sd, V, se⟩ := s
  simp only [sgOf] at PTS PT2 PT3 ⊢
  have hN := new_seg hB2 27 k (.slice B1 n1 d1) sa sr sn sd (.slice B2 n2 d2) se
  replace ho := ho.below (below_alloc w2 (sgO 27 k (.slice B1 n1 d1) sa sr sn sd (.slice B2 n2 d2) se))
  clear hB2
  go_upto_region 7 with (fail)
  generalize w2.alloc (sgO 27 k (.slice B1 n1 d1) sa sr sn sd (.slice B2 n2 d2) se) = w2' at *
  generalize w2.heap.size = g at *
  obtain ⟨⟨kz0, kc0, kf0⟩, ⟨kz1, kc1, kf1⟩, ⟨kz2, kc2, kf2⟩, ⟨kz3, kc3, kf3⟩, ⟨kz4, kc4, kf4⟩, ⟨kz5, kc5, kf5⟩, ⟨kz6, kc6, kf6⟩, ⟨kz7, kc7, kf7⟩, _⟩ := hN.2
  go_wp2_with fail
  refine (PTS.out _ _ _ ho.readsR ho.reads).mono ?_
  rintro e w3 ⟨rfl, hb⟩
  replace hN := hN.next hb
  replace ho := ho.below hb
  clear hb PTS
  (try clear hHeld0); (try clear hHeld1); (try clear hHeld2); (try clear hHeld3); (try clear hHeld4); (try clear hHeld5); (try clear hHeld6); (try clear hHeld7); (try clear hHeld8); (try clear hHeld9); (try clear hHeld10); (try clear hHeld11); (try clear hHeld12); (try clear hHeld13); (try clear hT0); (try clear kz0 kc0 kf0); (try clear kz1 kc1 kf1); (try clear kz2 kc2 kf2); (try clear kz3 kc3 kf3); (try clear kz4 kc4 kf4); (try clear kz5 kc5 kf5); (try clear kz6 kc6 kf6); (try clear kz7 kc7 kf7); (try clear kz8 kc8 kf8); (try clear kz9 kc9 kf9); (try clear kz10 kc10 kf10); (try clear kz11 kc11 kf11); (try clear kz12 kc12 kf12); (try clear kz13 kc13 kf13); (try clear t0z0 t0c0 t0f0); (try clear t0z1 t0c1 t0f1)
  (try clear kz14 kc14 kf14); (try clear kz15 kc15 kf15); (try clear kz16 kc16 kf16); (try clear kz17 kc17 kf17); (try clear kz18 kc18 kf18); (try clear kz19 kc19 kf19); (try clear kz20 kc20 kf20); (try clear kz21 kc21 kf21); (try clear kz22 kc22 kf22); (try clear kz23 kc23 kf23)
  have hM : Keeps w [(w3.heap.size, 0, .int .i64 p0), (w3.heap.size, 1, .int .i64 p1), (w3.heap.size, 2, .int .i64 p2), (w3.heap.size, 3, .int .i64 p3), (w3.heap.size, 4, .int .u64 p4)] (w3.alloc (.cells #[.int .i64 p0, .int .i64 p1, .int .i64 p2, .int .i64 p3, .int .u64 p4] 59)) := ⟨(hN.alloc _).1, by simp [Cells, go_sem]⟩
  replace hN := (hN.alloc (.cells #[.int .i64 p0, .int .i64 p1, .int .i64 p2, .int .i64 p3, .int .u64 p4] 59)).app hM
  replace ho := ho.below (below_alloc w3 (.cells #[.int .i64 p0, .int .i64 p1, .int .i64 p2, .int .i64 p3, .int .u64 p4] 59))
  clear hM
  go_upto_region 8 with (fail)
  generalize w3.alloc (.cells #[.int .i64 p0, .int .i64 p1, .int .i64 p2, .int .i64 p3, .int .u64 p4] 59) = w3' at *
  generalize w3.heap.size = g1 at *
  obtain ⟨⟨kz0, kc0, kf0⟩, ⟨kz1, kc1, kf1⟩, ⟨kz2, kc2, kf2⟩, ⟨kz3, kc3, kf3⟩, ⟨kz4, kc4, kf4⟩, ⟨kz5, kc5, kf5⟩, ⟨kz6, kc6, kf6⟩, ⟨kz7, kc7, kf7⟩, ⟨kz8, kc8, kf8⟩, ⟨kz9, kc9, kf9⟩, ⟨kz10, kc10, kf10⟩, ⟨kz11, kc11, kf11⟩, ⟨kz12, kc12, kf12⟩, _⟩ := hN.2
  go_wp2_with fail
  refine (PT2.out _ _ _ ho.readsR ho.reads).mono ?_
  rintro e w4 ⟨rfl, hb⟩
  replace hN := hN.next hb
  replace ho := ho.below hb
  clear hb PT2
  (try clear hHeld0); (try clear hHeld1); (try clear hHeld2); (try clear hHeld3); (try clear hHeld4); (try clear hHeld5); (try clear hHeld6); (try clear hHeld7); (try clear hHeld8); (try clear hHeld9); (try clear hHeld10); (try clear hHeld11); (try clear hHeld12); (try clear hHeld13); (try clear hT0); (try clear kz0 kc0 kf0); (try clear kz1 kc1 kf1); (try clear kz2 kc2 kf2); (try clear kz3 kc3 kf3); (try clear kz4 kc4 kf4); (try clear kz5 kc5 kf5); (try clear kz6 kc6 kf6); (try clear kz7 kc7 kf7); (try clear kz8 kc8 kf8); (try clear kz9 kc9 kf9); (try clear kz10 kc10 kf10); (try clear kz11 kc11 kf11); (try clear kz12 kc12 kf12); (try clear kz13 kc13 kf13); (try clear t0z0 t0c0 t0f0); (try clear t0z1 t0c1 t0f1)
  (try clear kz14 kc14 kf14); (try clear kz15 kc15 kf15); (try clear kz16 kc16 kf16); (try clear kz17 kc17 kf17); (try clear kz18 kc18 kf18); (try clear kz19 kc19 kf19); (try clear kz20 kc20 kf20); (try clear kz21 kc21 kf21); (try clear kz22 kc22 kf22); (try clear kz23 kc23 kf23)
  have hM : Keeps w [(w4.heap.size, 0, .int .i64 q0), (w4.heap.size, 1, .int .i64 q1), (w4.heap.size, 2, .int .i64 q2), (w4.heap.size, 3, .int .i64 q3), (w4.heap.size, 4, .int .u64 q4)] (w4.alloc (.cells #[.int .i64 q0, .int .i64 q1, .int .i64 q2, .int .i64 q3, .int .u64 q4] 59)) := ⟨(hN.alloc _).1, by simp [Cells, go_sem]⟩
  replace hN := (hN.alloc (.cells #[.int .i64 q0, .int .i64 q1, .int .i64 q2, .int .i64 q3, .int .u64 q4] 59)).app hM
  replace ho := ho.below (below_alloc w4 (.cells #[.int .i64 q0, .int .i64 q1, .int .i64 q2, .int .i64 q3, .int .u64 q4] 59))
  clear hM
  go_upto_region 9 with (fail)
  generalize w4.alloc (.cells #[.int .i64 q0, .int .i64 q1, .int .i64 q2, .int .i64 q3, .int .u64 q4] 59) = w4' at *
  generalize w4.heap.size = g2 at *
  obtain ⟨⟨kz0, kc0, kf0⟩, ⟨kz1, kc1, kf1⟩, ⟨kz2, kc2, kf2⟩, ⟨kz3, kc3, kf3⟩, ⟨kz4, kc4, kf4⟩, ⟨kz5, kc5, kf5⟩, ⟨kz6, kc6, kf6⟩, ⟨kz7, kc7, kf7⟩, ⟨kz8, kc8, kf8⟩, ⟨kz9, kc9, kf9⟩, ⟨kz10, kc10, kf10⟩, ⟨kz11, kc11, kf11⟩, ⟨kz12, kc12, kf12⟩, ⟨kz13, kc13, kf13⟩, ⟨kz14, kc14, kf14⟩, ⟨kz15, kc15, kf15⟩, ⟨kz16, kc16, kf16⟩, ⟨kz17, kc17, kf17⟩, _⟩ := hN.2
  go_wp2_with fail
  refine (PT3.out _ _ _ ho.readsR ho.reads).mono ?_
  rintro e w5 ⟨rfl, hb⟩
  replace hN := hN.next hb
  clear hb ho PT3
  (try clear hHeld0); (try clear hHeld1); (try clear hHeld2); (try clear hHeld3); (try clear hHeld4); (try clear hHeld5); (try clear hHeld6); (try clear hHeld7); (try clear hHeld8); (try clear hHeld9); (try clear hHeld10); (try clear hHeld11); (try clear hHeld12); (try clear hHeld13); (try clear hT0); (try clear kz0 kc0 kf0); (try clear kz1 kc1 kf1); (try clear kz2 kc2 kf2); (try clear kz3 kc3 kf3); (try clear kz4 kc4 kf4); (try clear kz5 kc5 kf5); (try clear kz6 kc6 kf6); (try clear kz7 kc7 kf7); (try clear kz8 kc8 kf8); (try clear kz9 kc9 kf9); (try clear kz10 kc10 kf10); (try clear kz11 kc11 kf11); (try clear kz12 kc12 kf12); (try clear kz13 kc13 kf13); (try clear t0z0 t0c0 t0f0); (try clear t0z1 t0c1 t0f1)
  (try clear kz14 kc14 kf14); (try clear kz15 kc15 kf15); (try clear kz16 kc16 kf16); (try clear kz17 kc17 kf17); (try clear kz18 kc18 kf18); (try clear kz19 kc19 kf19); (try clear kz20 kc20 kf20); (try clear kz21 kc21 kf21); (try clear kz22 kc22 kf22); (try clear kz23 kc23 kf23)
  have hM : Keeps w [(w5.heap.size, 0, .int .i64 r0), (w5.heap.size, 1, .int .i64 r1), (w5.heap.size, 2, .int .i64 r2), (w5.heap.size, 3, .int .i64 r3), (w5.heap.size, 4, .int .u64 r4)] (w5.alloc (.cells #[.int .i64 r0, .int .i64 r1, .int .i64 r2, .int .i64 r3, .int .u64 r4] 59)) := ⟨(hN.alloc _).1, by simp [Cells, go_sem]⟩
  replace hN := (hN.sub (L' := [(g1, 0, .int .i64 p0), (g1, 1, .int .i64 p1), (g1, 2, .int .i64 p2), (g1, 3, .int .i64 p3), (g1, 4, .int .u64 p4)] ++ [(g2, 0, .int .i64 q0), (g2, 1, .int .i64 q1), (g2, 2, .int .i64 q2), (g2, 3, .int .i64 q3), (g2, 4, .int .u64 q4)]) (by simp)).alloc (.cells #[.int .i64 r0, .int .i64 r1, .int .i64 r2, .int .i64 r3, .int .u64 r4] 59) |>.app hM
  clear hM
  go_upto_region 10 with (fail)
  generalize w5.alloc (.cells #[.int .i64 r0, .int .i64 r1, .int .i64 r2, .int .i64 r3, .int .u64 r4] 59) = w5' at *
  generalize w5.heap.size = g3 at *
  obtain ⟨⟨kz0, kc0, kf0⟩, ⟨kz1, kc1, kf1⟩, ⟨kz2, kc2, kf2⟩, ⟨kz3, kc3, kf3⟩, ⟨kz4, kc4, kf4⟩, ⟨kz5, kc5, kf5⟩, ⟨kz6, kc6, kf6⟩, ⟨kz7, kc7, kf7⟩, ⟨kz8, kc8, kf8⟩, ⟨kz9, kc9, kf9⟩, ⟨kz10, kc10, kf10⟩, ⟨kz11, kc11, kf11⟩, ⟨kz12, kc12, kf12⟩, ⟨kz13, kc13, kf13⟩, ⟨kz14, kc14, kf14⟩, _⟩ := hN.2
  go_wp2_with fail
  go_ret
  exact ⟨rfl, hN.1⟩
set_option maxRecDepth 100000 in
set_option maxHeartbeats 4000000 in
theorem parted_back (x : Sg) (v0 u0 : Value) (s : Sg) (a m b : Int) (w : World) (WK : Hid (∀ W, Calls Tryz.prog 11 #[] W (Ret W (.bool true)))) (OW : Hid (∀ W, Below w.heap.size w W → Calls Tryz.prog 12 #[sgOf x v0 u0] W (OwnS W s))) (h1 : decide (m < a) = false) (h2 : decide (b ≤ m) = false) (hm : wrap64 (m + 1) = m + 1) (p0 p1 p2 p3 p4 q0 q1 q2 q3 q4 cc : Int) (PTS : Hid (CallP s a m p0 p1 p2 p3 p4 9)) (PT2 : Hid (CallP s (m + 1) b q0 q1 q2 q3 q4 cc)) (PT3 : Hid (CallP s a b q0 q1 q2 q3 q4 cc)) :
    Calls Tryz.prog 9 #[sgOf x v0 u0, .int .i64 a, .int .i64 m, .int .i64 b] w (Ret w (.bool true)) := by
  go_enter Tryz.func9, Tryz.ntmps9
  go_wp2_with fail
  refine (WK.out _).mono ?_
  rintro e w1 ⟨rfl, hb⟩
  have hK := new_seg (Below.refl w.heap.size w) 27 x.k v0 x.a x.r x.n x.d u0 x.e
  replace hK := hK.next hb
  clear hb
  obtain ⟨⟨kz0, kc0, kf0⟩, ⟨kz1, kc1, kf1⟩, ⟨kz2, kc2, kf2⟩, ⟨kz3, kc3, kf3⟩, ⟨kz4, kc4, kf4⟩, ⟨kz5, kc5, kf5⟩, ⟨kz6, kc6, kf6⟩, ⟨kz7, kc7, kf7⟩, _⟩ := hK.2
  go_wp2_with fail
  refine (OW.out _ hK.1).mono ?_
  rintro e w2 hq
  obtain ⟨B1, n1, d1, B2, n2, d2, rfl, hb, ho⟩ := own_got hq
  have hB2 := under hK.1 hb
  clear hb hK hq
  (try clear hHeld0); (try clear hHeld1); (try clear hHeld2); (try clear hHeld3); (try clear hHeld4); (try clear hHeld5); (try clear hHeld6); (try clear hHeld7); (try clear hHeld8); (try clear hHeld9); (try clear hHeld10); (try clear hHeld11); (try clear hHeld12); (try clear hHeld13); (try clear hT0); (try clear kz0 kc0 kf0); (try clear kz1 kc1 kf1); (try clear kz2 kc2 kf2); (try clear kz3 kc3 kf3); (try clear kz4 kc4 kf4); (try clear kz5 kc5 kf5); (try clear kz6 kc6 kf6); (try clear kz7 kc7 kf7); (try clear kz8 kc8 kf8); (try clear kz9 kc9 kf9); (try clear kz10 kc10 kf10); (try clear kz11 kc11 kf11); (try clear kz12 kc12 kf12); (try clear kz13 kc13 kf13); (try clear t0z0 t0c0 t0f0); (try clear t0z1 t0c1 t0f1)
  obtain ⟨k, R, sa, sr, sn, sd, V, se⟩ := s
  simp only [sgOf] at PTS PT2 PT3 ⊢
  have hN := new_seg hB2 27 k (.slice B1 n1 d1) sa sr sn sd (.slice B2 n2 d2) se
  replace ho := ho.below (below_alloc w2 (sgO 27 k (.slice B1 n1 d1) sa sr sn sd (.slice B2 n2 d2) se))
  clear hB2
  go_upto_region 7 with (fail)
  generalize w2.alloc (sgO 27 k (.slice B1 n1 d1) sa sr sn sd (.slice B2 n2 d2) se) = w2' at *
  generalize w2.heap.size = g at *
  obtain ⟨⟨kz0, kc0, kf0⟩, ⟨kz1, kc1, kf1⟩, ⟨kz2, kc2, kf2⟩, ⟨kz3, kc3, kf3⟩, ⟨kz4, kc4, kf4⟩, ⟨kz5, kc5, kf5⟩, ⟨kz6, kc6, kf6⟩, ⟨kz7, kc7, kf7⟩, _⟩ := hN.2
  go_wp2_with fail
  refine (PTS.out _ _ _ ho.readsR ho.reads).mono ?_
  rintro e w3 ⟨rfl, hb⟩
  replace hN := hN.next hb
  replace ho := ho.below hb
  clear hb PTS
  (try clear hHeld0); (try clear hHeld1); (try clear hHeld2); (try clear hHeld3); (try clear hHeld4); (try clear hHeld5); (try clear hHeld6); (try clear hHeld7); (try clear hHeld8); (try clear hHeld9); (try clear hHeld10); (try clear hHeld11); (try clear hHeld12); (try clear hHeld13); (try clear hT0); (try clear kz0 kc0 kf0); (try clear kz1 kc1 kf1); (try clear kz2 kc2 kf2); (try clear kz3 kc3 kf3); (try clear kz4 kc4 kf4); (try clear kz5 kc5 kf5); (try clear kz6 kc6 kf6); (try clear kz7 kc7 kf7); (try clear kz8 kc8 kf8); (try clear kz9 kc9 kf9); (try clear kz10 kc10 kf10); (try clear kz11 kc11 kf11); (try clear kz12 kc12 kf12); (try clear kz13 kc13 kf13); (try clear t0z0 t0c0 t0f0); (try clear t0z1 t0c1 t0f1)
  (try clear kz14 kc14 kf14); (try clear kz15 kc15 kf15); (try clear kz16 kc16 kf16); (try clear kz17 kc17 kf17); (try clear kz18 kc18 kf18); (try clear kz19 kc19 kf19); (try clear kz20 kc20 kf20); (try clear kz21 kc21 kf21); (try clear kz22 kc22 kf22); (try clear kz23 kc23 kf23)
  have hM : Keeps w [(w3.heap.size, 0, .int .i64 p0), (w3.heap.size, 1, .int .i64 p1), (w3.heap.size, 2, .int .i64 p2), (w3.heap.size, 3, .int .i64 p3), (w3.heap.size, 4, .int .u64 p4)] (w3.alloc (.cells #[.int .i64 p0, .int .i64 p1, .int .i64 p2, .int .i64 p3, .int .u64 p4] 59)) := ⟨(hN.alloc _).1, by simp [Cells, go_sem]⟩
  replace hN := (hN.alloc (.cells #[.int .i64 p0, .int .i64 p1, .int .i64 p2, .int .i64 p3, .int .u64 p4] 59)).app hM
  replace ho := ho.below (below_alloc w3 (.cells #[.int .i64 p0, .int .i64 p1, .int .i64 p2, .int .i64 p3, .int .u64 p4] 59))
  clear hM
  go_upto_region 8 with (fail)
  generalize w3.alloc (.cells #[.int .i64 p0, .int .i64 p1, .int .i64 p2, .int .i64 p3, .int .u64 p4] 59) = w3' at *
  generalize w3.heap.size = g1 at *
  obtain ⟨⟨kz0, kc0, kf0⟩, ⟨kz1, kc1, kf1⟩, ⟨kz2, kc2, kf2⟩, ⟨kz3, kc3, kf3⟩, ⟨kz4, kc4, kf4⟩, ⟨kz5, kc5, kf5⟩, ⟨kz6, kc6, kf6⟩, ⟨kz7, kc7, kf7⟩, ⟨kz8, kc8, kf8⟩, ⟨kz9, kc9, kf9⟩, ⟨kz10, kc10, kf10⟩, ⟨kz11, kc11, kf11⟩, ⟨kz12, kc12, kf12⟩, _⟩ := hN.2
  go_wp2_with fail
  refine (PT2.out _ _ _ ho.readsR ho.reads).mono ?_
  rintro e w4 ⟨rfl, hb⟩
  replace hN := hN.next hb
  replace ho := ho.below hb
  clear hb PT2
  (try clear hHeld0); (try clear hHeld1); (try clear hHeld2); (try clear hHeld3); (try clear hHeld4); (try clear hHeld5); (try clear hHeld6); (try clear hHeld7); (try clear hHeld8); (try clear hHeld9); (try clear hHeld10); (try clear hHeld11); (try clear hHeld12); (try clear hHeld13); (try clear hT0); (try clear kz0 kc0 kf0); (try clear kz1 kc1 kf1); (try clear kz2 kc2 kf2); (try clear kz3 kc3 kf3); (try clear kz4 kc4 kf4); (try clear kz5 kc5 kf5); (try clear kz6 kc6 kf6); (try clear kz7 kc7 kf7); (try clear kz8 kc8 kf8); (try clear kz9 kc9 kf9); (try clear kz10 kc10 kf10); (try clear kz11 kc11 kf11); (try clear kz12 kc12 kf12); (try clear kz13 kc13 kf13); (try clear t0z0 t0c0 t0f0); (try clear t0z1 t0c1 t0f1)
  (try clear kz14 kc14 kf14); (try clear kz15 kc15 kf15); (try clear kz16 kc16 kf16); (try clear kz17 kc17 kf17); (try clear kz18 kc18 kf18); (try clear kz19 kc19 kf19); (try clear kz20 kc20 kf20); (try clear kz21 kc21 kf21); (try clear kz22 kc22 kf22); (try clear kz23 kc23 kf23)
  have hM : Keeps w [(w4.heap.size, 0, .int .i64 q0), (w4.heap.size, 1, .int .i64 q1), (w4.heap.size, 2, .int .i64 q2), (w4.heap.size, 3, .int .i64 q3), (w4.heap.size, 4, .int .u64 q4)] (w4.alloc (.cells #[.int .i64 q0, .int .i64 q1, .int .i64 q2, .int .i64 q3, .int .u64 q4] 59)) := ⟨(hN.alloc _).1, by simp [Cells, go_sem]⟩
  replace hN := (hN.alloc (.cells #[.int .i64 q0, .int .i64 q1, .int .i64 q2, .int .i64 q3, .int .u64 q4] 59)).app hM
  replace ho := ho.below (below_alloc w4 (.cells #[.int .i64 q0, .int .i64 q1, .int .i64 q2, .int .i64 q3, .int .u64 q4] 59))
  clear hM
  go_upto_region 9 with (fail)
  generalize w4.alloc (.cells #[.int .i64 q0, .int .i64 q1, .int .i64 q2, .int .i64 q3, .int .u64 q4] 59) = w4' at *
  generalize w4.heap.size = g2 at *
  obtain ⟨⟨kz0, kc0, kf0⟩, ⟨kz1, kc1, kf1⟩, ⟨kz2, kc2, kf2⟩, ⟨kz3, kc3, kf3⟩, ⟨kz4, kc4, kf4⟩, ⟨kz5, kc5, kf5⟩, ⟨kz6, kc6, kf6⟩, ⟨kz7, kc7, kf7⟩, ⟨kz8, kc8, kf8⟩, ⟨kz9, kc9, kf9⟩, ⟨kz10, kc10, kf10⟩, ⟨kz11, kc11, kf11⟩, ⟨kz12, kc12, kf12⟩, ⟨kz13, kc13, kf13⟩, ⟨kz14, kc14, kf14⟩, ⟨kz15, kc15, kf15⟩, ⟨kz16, kc16, kf16⟩, ⟨kz17, kc17, kf17⟩, _⟩ := hN.2
  go_wp2_with fail
  refine (PT3.out _ _ _ ho.readsR ho.reads).mono ?_
  rintro e w5 ⟨rfl, hb⟩
  replace hN := hN.next hb
  clear hb ho PT3
  (try clear hHeld0); (try clear hHeld1); (try clear hHeld2); (try clear hHeld3); (try clear hHeld4); (try clear hHeld5); (try clear hHeld6); (try clear hHeld7); (try clear hHeld8); (try clear hHeld9); (try clear hHeld10); (try clear hHeld11); (try clear hHeld12); (try clear hHeld13); (try clear hT0); (try clear kz0 kc0 kf0); (try clear kz1 kc1 kf1); (try clear kz2 kc2 kf2); (try clear kz3 kc3 kf3); (try clear kz4 kc4 kf4); (try clear kz5 kc5 kf5); (try clear kz6 kc6 kf6); (try clear kz7 kc7 kf7); (try clear kz8 kc8 kf8); (try clear kz9 kc9 kf9); (try clear kz10 kc10 kf10); (try clear kz11 kc11 kf11); (try clear kz12 kc12 kf12); (try clear kz13 kc13 kf13); (try clear t0z0 t0c0 t0f0); (try clear t0z1 t0c1 t0f1)
  (try clear kz14 kc14 kf14); (try clear kz15 kc15 kf15); (try clear kz16 kc16 kf16); (try clear kz17 kc17 kf17); (try clear kz18 kc18 kf18); (try clear kz19 kc19 kf19); (try clear kz20 kc20 kf20); (try clear kz21 kc21 kf21); (try clear kz22 kc22 kf22); (try clear kz23 kc23 kf23)
  have hM : Keeps w [(w5.heap.size, 0, .int .i64 q0), (w5.heap.size, 1, .int .i64 q1), (w5.heap.size, 2, .int .i64 q2), (w5.heap.size, 3, .int .i64 q3), (w5.heap.size, 4, .int .u64 q4)] (w5.alloc (.cells #[.int .i64 q0, .int .i64 q1, .int .i64 q2, .int .i64 q3, .int .u64 q4] 59)) := ⟨(hN.alloc _).1, by simp [Cells, go_sem]⟩
  replace hN := (hN.sub (L' := [(g1, 0, .int .i64 p0), (g1, 1, .int .i64 p1), (g1, 2, .int .i64 p2), (g1, 3, .int .i64 p3), (g1, 4, .int .u64 p4)] ++ [(g2, 0, .int .i64 q0), (g2, 1, .int .i64 q1), (g2, 2, .int .i64 q2), (g2, 3, .int .i64 q3), (g2, 4, .int .u64 q4)]) (by simp)).alloc (.cells #[.int .i64 q0, .int .i64 q1, .int .i64 q2, .int .i64 q3, .int .u64 q4] 59) |>.app hM
  clear hM
  go_upto_region 10 with (fail)
  generalize w5.alloc (.cells #[.int .i64 q0, .int .i64 q1, .int .i64 q2, .int .i64 q3, .int .u64 q4] 59) = w5' at *
  generalize w5.heap.size = g3 at *
  obtain ⟨⟨kz0, kc0, kf0⟩, ⟨kz1, kc1, kf1⟩, ⟨kz2, kc2, kf2⟩, ⟨kz3, kc3, kf3⟩, ⟨kz4, kc4, kf4⟩, ⟨kz5, kc5, kf5⟩, ⟨kz6, kc6, kf6⟩, ⟨kz7, kc7, kf7⟩, ⟨kz8, kc8, kf8⟩, ⟨kz9, kc9, kf9⟩, ⟨kz10, kc10, kf10⟩, ⟨kz11, kc11, kf11⟩, ⟨kz12, kc12, kf12⟩, ⟨kz13, kc13, kf13⟩, ⟨kz14, kc14, kf14⟩, _⟩ := hN.2
  go_wp2_with fail
  go_ret
  exact ⟨rfl, hN.1⟩
set_option maxRecDepth 100000 in
set_option maxHeartbeats 4000000 in
theorem parted_front (x : Sg) (v0 u0 : Value) (s : Sg) (a m b : Int) (w : World) (WK : Hid (∀ W, Calls Tryz.prog 11 #[] W (Ret W (.bool true)))) (OW : Hid (∀ W, Below w.heap.size w W → Calls Tryz.prog 12 #[sgOf x v0 u0] W (OwnS W s))) (h1 : decide (m < a) = false) (h2 : decide (b ≤ m) = false) (hm : wrap64 (m + 1) = m + 1) (p0 p1 p2 p3 p4 q0 q1 q2 q3 q4 : Int) (PTS : Hid (CallP s a m p0 p1 p2 p3 p4 0)) (PT2 : Hid (CallP s (m + 1) b q0 q1 q2 q3 q4 9)) (PT3 : Hid (CallP s a b p0 p1 p2 p3 p4 0)) :
    Calls Tryz.prog 9 #[sgOf x v0 u0, .int .i64 a, .int .i64 m, .int .i64 b] w (Ret w (.bool true)) := by
  go_enter Tryz.func9, Tryz.ntmps9
  go_wp2_with fail
  refine (WK.out _).mono ?_
  rintro e w1 ⟨rfl, hb⟩
  have hK := new_seg (Below.refl w.heap.size w) 27 x.k v0 x.a x.r x.n x.d u0 x.e
  replace hK := hK.next hb
  clear hb
  obtain ⟨⟨kz0, kc0, kf0⟩, ⟨kz1, kc1, kf1⟩, ⟨kz2, kc2, kf2⟩, ⟨kz3, kc3, kf3⟩, ⟨kz4, kc4, kf4⟩, ⟨kz5, kc5, kf5⟩, ⟨kz6, kc6, kf6⟩, ⟨kz7, kc7, kf7⟩, _⟩ := hK.2
  go_wp2_with fail
  refine (OW.out _ hK.1).mono ?_
  rintro e w2 hq
  obtain ⟨B1, n1, d1, B2, n2, d2, rfl, hb, ho⟩ := own_got hq
  have hB2 := under hK.1 hb
  clear hb hK hq
  (try clear hHeld0); (try clear hHeld1); (try clear hHeld2); (try clear hHeld3); (try clear hHeld4); (try clear hHeld5); (try clear hHeld6); (try clear hHeld7); (try clear hHeld8); (try clear hHeld9); (try clear hHeld10); (try clear hHeld11); (try clear hHeld12); (try clear hHeld13); (try clear hT0); (try clear kz0 kc0 kf0); (try clear kz1 kc1 kf1); (try clear kz2 kc2 kf2); (try clear kz3 kc3 kf3); (try clear kz4 kc4 kf4); (try clear kz5 kc5 kf5); (try clear kz6 kc6 kf6); (try clear kz7 kc7 kf7); (try clear kz8 kc8 kf8); (try clear kz9 kc9 kf9); (try clear kz10 kc10 kf10); (try clear kz11 kc11 kf11); (try clear kz12 kc12 kf12); (try clear kz13 kc13 kf13); (try clear t0z0 t0c0 t0f0); (try clear t0z1 t0c1 t0f1)
  obtain ⟨k, R, sa, sr, sn, sd, V, se⟩ := s
  simp only [sgOf] at PTS PT2 PT3 ⊢
  have hN := new_seg hB2 27 k (.slice B1 n1 d1) sa sr sn sd (.slice B2 n2 d2) se
  replace ho := ho.below (below_alloc w2 (sgO 27 k (.slice B1 n1 d1) sa sr sn sd (.slice B2 n2 d2) se))
  clear hB2
  go_upto_region 7 with (fail)
  generalize w2.alloc (sgO 27 k (.slice B1 n1 d1) sa sr sn sd (.slice B2 n2 d2) se) = w2' at *
  generalize w2.heap.size = g at *
  obtain ⟨⟨kz0, kc0, kf0⟩, ⟨kz1, kc1, kf1⟩, ⟨kz2, kc2, kf2⟩, ⟨kz3, kc3, kf3⟩, ⟨kz4, kc4, kf4⟩, ⟨kz5, kc5, kf5⟩, ⟨kz6, kc6, kf6⟩, ⟨kz7, kc7, kf7⟩, _⟩ := hN.2
  go_wp2_with fail
  refine (PTS.out _ _ _ ho.readsR ho.reads).mono ?_
  rintro e w3 ⟨rfl, hb⟩
  replace hN := hN.next hb
  replace ho := ho.below hb
  clear hb PTS
  (try clear hHeld0); (try clear hHeld1); (try clear hHeld2); (try clear hHeld3); (try clear hHeld4); (try clear hHeld5); (try clear hHeld6); (try clear hHeld7); (try clear hHeld8); (try clear hHeld9); (try clear hHeld10); (try clear hHeld11); (try clear hHeld12); (try clear hHeld13); (try clear hT0); (try clear kz0 kc0 kf0); (try clear kz1 kc1 kf1); (try clear kz2 kc2 kf2); (try clear kz3 kc3 kf3); (try clear kz4 kc4 kf4); (try clear kz5 kc5 kf5); (try clear kz6 kc6 kf6); (try clear kz7 kc7 kf7); (try clear kz8 kc8 kf8); (try clear kz9 kc9 kf9); (try clear kz10 kc10 kf10); (try clear kz11 kc11 kf11); (try clear kz12 kc12 kf12); (try clear kz13 kc13 kf13); (try clear t0z0 t0c0 t0f0); (try clear t0z1 t0c1 t0f1)
  (try clear kz14 kc14 kf14); (try clear kz15 kc15 kf15); (try clear kz16 kc16 kf16); (try clear kz17 kc17 kf17); (try clear kz18 kc18 kf18); (try clear kz19 kc19 kf19); (try clear kz20 kc20 kf20); (try clear kz21 kc21 kf21); (try clear kz22 kc22 kf22); (try clear kz23 kc23 kf23)
  have hM : Keeps w [(w3.heap.size, 0, .int .i64 p0), (w3.heap.size, 1, .int .i64 p1), (w3.heap.size, 2, .int .i64 p2), (w3.heap.size, 3, .int .i64 p3), (w3.heap.size, 4, .int .u64 p4)] (w3.alloc (.cells #[.int .i64 p0, .int .i64 p1, .int .i64 p2, .int .i64 p3, .int .u64 p4] 59)) := ⟨(hN.alloc _).1, by simp [Cells, go_sem]⟩
  replace hN := (hN.alloc (.cells #[.int .i64 p0, .int .i64 p1, .int .i64 p2, .int .i64 p3, .int .u64 p4] 59)).app hM
  replace ho := ho.below (below_alloc w3 (.cells #[.int .i64 p0, .int .i64 p1, .int .i64 p2, .int .i64 p3, .int .u64 p4] 59))
  clear hM
  go_upto_region 8 with (fail)
  generalize w3.alloc (.cells #[.int .i64 p0, .int .i64 p1, .int .i64 p2, .int .i64 p3, .int .u64 p4] 59) = w3' at *
  generalize w3.heap.size = g1 at *
  obtain ⟨⟨kz0, kc0, kf0⟩, ⟨kz1, kc1, kf1⟩, ⟨kz2, kc2, kf2⟩, ⟨kz3, kc3, kf3⟩, ⟨kz4, kc4, kf4⟩, ⟨kz5, kc5, kf5⟩, ⟨kz6, kc6, kf6⟩, ⟨kz7, kc7, kf7⟩, ⟨kz8, kc8, kf8⟩, ⟨kz9, kc9, kf9⟩, ⟨kz10, kc10, kf10⟩, ⟨kz11, kc11, kf11⟩, ⟨kz12, kc12, kf12⟩, _⟩ := hN.2
  go_wp2_with fail
  refine (PT2.out _ _ _ ho.readsR ho.reads).mono ?_
  rintro e w4 ⟨rfl, hb⟩
  replace hN := hN.next hb
  replace ho := ho.below hb
  clear hb PT2
  (try clear hHeld0); (try clear hHeld1); (try clear hHeld2); (try clear hHeld3); (try clear hHeld4); (try clear hHeld5); (try clear hHeld6); (try clear hHeld7); (try clear hHeld8); (try clear hHeld9); (try clear hHeld10); (try clear hHeld11); (try clear hHeld12); (try clear hHeld13); (try clear hT0); (try clear kz0 kc0 kf0); (try clear kz1 kc1 kf1); (try clear kz2 kc2 kf2); (try clear kz3 kc3 kf3); (try clear kz4 kc4 kf4); (try clear kz5 kc5 kf5); (try clear kz6 kc6 kf6); (try clear kz7 kc7 kf7); (try clear kz8 kc8 kf8); (try clear kz9 kc9 kf9); (try clear kz10 kc10 kf10); (try clear kz11 kc11 kf11); (try clear kz12 kc12 kf12); (try clear kz13 kc13 kf13); (try clear t0z0 t0c0 t0f0); (try clear t0z1 t0c1 t0f1)
  (try clear kz14 kc14 kf14); (try clear kz15 kc15 kf15); (try clear kz16 kc16 kf16); (try clear kz17 kc17 kf17); (try clear kz18 kc18 kf18); (try clear kz19 kc19 kf19); (try clear kz20 kc20 kf20); (try clear kz21 kc21 kf21); (try clear kz22 kc22 kf22); (try clear kz23 kc23 kf23)
  have hM : Keeps w [(w4.heap.size, 0, .int .i64 q0), (w4.heap.size, 1, .int .i64 q1), (w4.heap.size, 2, .int .i64 q2), (w4.heap.size, 3, .int .i64 q3), (w4.heap.size, 4, .int .u64 q4)] (w4.alloc (.cells #[.int .i64 q0, .int .i64 q1, .int .i64 q2, .int .i64 q3, .int .u64 q4] 59)) := ⟨(hN.alloc _).1, by simp [Cells, go_sem]⟩
  replace hN := (hN.alloc (.cells #[.int .i64 q0, .int .i64 q1, .int .i64 q2, .int .i64 q3, .int .u64 q4] 59)).app hM
  replace ho := ho.below (below_alloc w4 (.cells #[.int .i64 q0, .int .i64 q1, .int .i64 q2, .int .i64 q3, .int .u64 q4] 59))
  clear hM
  go_upto_region 9 with (fail)
  generalize w4.alloc (.cells #[.int .i64 q0, .int .i64 q1, .int .i64 q2, .int .i64 q3, .int .u64 q4] 59) = w4' at *
  generalize w4.heap.size = g2 at *
  obtain ⟨⟨kz0, kc0, kf0⟩, ⟨kz1, kc1, kf1⟩, ⟨kz2, kc2, kf2⟩, ⟨kz3, kc3, kf3⟩, ⟨kz4, kc4, kf4⟩, ⟨kz5, kc5, kf5⟩, ⟨kz6, kc6, kf6⟩, ⟨kz7, kc7, kf7⟩, ⟨kz8, kc8, kf8⟩, ⟨kz9, kc9, kf9⟩, ⟨kz10, kc10, kf10⟩, ⟨kz11, kc11, kf11⟩, ⟨kz12, kc12, kf12⟩, ⟨kz13, kc13, kf13⟩, ⟨kz14, kc14, kf14⟩, ⟨kz15, kc15, kf15⟩, ⟨kz16, kc16, kf16⟩, ⟨kz17, kc17, kf17⟩, _⟩ := hN.2
  go_wp2_with fail
  refine (PT3.out _ _ _ ho.readsR ho.reads).mono ?_
  rintro e w5 ⟨rfl, hb⟩
  replace hN := hN.next hb
  clear hb ho PT3
  (try clear hHeld0); (try clear hHeld1); (try clear hHeld2); (try clear hHeld3); (try clear hHeld4); (try clear hHeld5); (try clear hHeld6); (try clear hHeld7); (try clear hHeld8); (try clear hHeld9); (try clear hHeld10); (try clear hHeld11); (try clear hHeld12); (try clear hHeld13); (try clear hT0); (try clear kz0 kc0 kf0); (try clear kz1 kc1 kf1); (try clear kz2 kc2 kf2); (try clear kz3 kc3 kf3); (try clear kz4 kc4 kf4); (try clear kz5 kc5 kf5); (try clear kz6 kc6 kf6); (try clear kz7 kc7 kf7); (try clear kz8 kc8 kf8); (try clear kz9 kc9 kf9); (try clear kz10 kc10 kf10); (try clear kz11 kc11 kf11); (try clear kz12 kc12 kf12); (try clear kz13 kc13 kf13); (try clear t0z0 t0c0 t0f0); (try clear t0z1 t0c1 t0f1)
  (try clear kz14 kc14 kf14); (try clear kz15 kc15 kf15); (try clear kz16 kc16 kf16); (try clear kz17 kc17 kf17); (try clear kz18 kc18 kf18); (try clear kz19 kc19 kf19); (try clear kz20 kc20 kf20); (try clear kz21 kc21 kf21); (try clear kz22 kc22 kf22); (try clear kz23 kc23 kf23)
  have hM : Keeps w [(w5.heap.size, 0, .int .i64 p0), (w5.heap.size, 1, .int .i64 p1), (w5.heap.size, 2, .int .i64 p2), (w5.heap.size, 3, .int .i64 p3), (w5.heap.size, 4, .int .u64 p4)] (w5.alloc (.cells #[.int .i64 p0, .int .i64 p1, .int .i64 p2, .int .i64 p3, .int .u64 p4] 59)) := ⟨(hN.alloc _).1, by simp [Cells, go_sem]⟩
  replace hN := (hN.sub (L' := [(g1, 0, .int .i64 p0), (g1, 1, .int .i64 p1), (g1, 2, .int .i64 p2), (g1, 3, .int .i64 p3), (g1, 4, .int .u64 p4)] ++ [(g2, 0, .int .i64 q0), (g2, 1, .int .i64 q1), (g2, 2, .int .i64 q2), (g2, 3, .int .i64 q3), (g2, 4, .int .u64 q4)]) (by simp)).alloc (.cells #[.int .i64 p0, .int .i64 p1, .int .i64 p2, .int .i64 p3, .int .u64 p4] 59) |>.app hM
  clear hM
  go_upto_region 10 with (fail)
  generalize w5.alloc (.cells #[.int .i64 p0, .int .i64 p1, .int .i64 p2, .int .i64 p3, .int .u64 p4] 59) = w5' at *
  generalize w5.heap.size = g3 at *
  obtain ⟨⟨kz0, kc0, kf0⟩, ⟨kz1, kc1, kf1⟩, ⟨kz2, kc2, kf2⟩, ⟨kz3, kc3, kf3⟩, ⟨kz4, kc4, kf4⟩, ⟨kz5, kc5, kf5⟩, ⟨kz6, kc6, kf6⟩, ⟨kz7, kc7, kf7⟩, ⟨kz8, kc8, kf8⟩, ⟨kz9, kc9, kf9⟩, ⟨kz10, kc10, kf10⟩, ⟨kz11, kc11, kf11⟩, ⟨kz12, kc12, kf12⟩, ⟨kz13, kc13, kf13⟩, ⟨kz14, kc14, kf14⟩, _⟩ := hN.2
  go_wp2_with fail
  go_ret
  exact ⟨rfl, hN.1⟩
set_option maxRecDepth 100000 in
set_option maxHeartbeats 4000000 in
theorem parted_both (x : Sg) (v0 u0 : Value) (s : Sg) (a m b : Int) (w : World) (WK : Hid (∀ W, Calls Tryz.prog 11 #[] W (Ret W (.bool true)))) (OW : Hid (∀ W, Below w.heap.size w W → Calls Tryz.prog 12 #[sgOf x v0 u0] W (OwnS W s))) (h1 : decide (m < a) = false) (h2 : decide (b ≤ m) = false) (hm : wrap64 (m + 1) = m + 1) (p0 p1 p2 p3 p4 q0 q1 q2 q3 q4 r0 r1 r2 r3 r4 : Int) (PTS : Hid (CallP s a m p0 p1 p2 p3 p4 0)) (PT2 : Hid (CallP s (m + 1) b q0 q1 q2 q3 q4 0)) (PT3 : Hid (CallP s a b r0 r1 r2 r3 r4 0)) (TG : Hid (∀ W, Calls Tryz.prog 34 #[fiveV p0 p1 p2 p3 p4, fiveV q0 q1 q2 q3 q4] W (Ret W (.tuple #[fiveV r0 r1 r2 r3 r4, .bool true])))) :
    Calls Tryz.prog 9 #[sgOf x v0 u0, .int .i64 a, .int .i64 m, .int .i64 b] w (Ret w (.bool true)) := by
  go_enter Tryz.func9, Tryz.ntmps9
  go_wp2_with fail
  refine (WK.out _).mono ?_
  rintro e w1 ⟨rfl, hb⟩
  have hK := new_seg (Below.refl w.heap.size w) 27 x.k v0 x.a x.r x.n x.d u0 x.e
  replace hK := hK.next hb
  clear hb
  obtain ⟨⟨kz0, kc0, kf0⟩, ⟨kz1, kc1, kf1⟩, ⟨kz2, kc2, kf2⟩, ⟨kz3, kc3, kf3⟩, ⟨kz4, kc4, kf4⟩, ⟨kz5, kc5, kf5⟩, ⟨kz6, kc6, kf6⟩, ⟨kz7, kc7, kf7⟩, _⟩ := hK.2
  go_wp2_with fail
  refine (OW.out _ hK.1).mono ?_
  rintro e w2 hq
  obtain ⟨B1, n1, d1, B2, n2, d2, rfl, hb, ho⟩ := own_got hq
  have hB2 := under hK.1 hb
  clear hb hK hq
  (try clear hHeld0); (try clear hHeld1); (try clear hHeld2); (try clear hHeld3); (try clear hHeld4); (try clear hHeld5); (try clear hHeld6); (try clear hHeld7); (try clear hHeld8); (try clear hHeld9); (try clear hHeld10); (try clear hHeld11); (try clear hHeld12); (try clear hHeld13); (try clear hT0); (try clear kz0 kc0 kf0); (try clear kz1 kc1 kf1); (try clear kz2 kc2 kf2); (try clear kz3 kc3 kf3); (try clear kz4 kc4 kf4); (try clear kz5 kc5 kf5); (try clear kz6 kc6 kf6); (try clear kz7 kc7 kf7); (try clear kz8 kc8 kf8); (try clear kz9 kc9 kf9); (try clear kz10 kc10 kf10); (try clear kz11 kc11 kf11); (try clear kz12 kc12 kf12); (try clear kz13 kc13 kf13); (try clear t0z0 t0c0 t0f0); (try clear t0z1 t0c1 t0f1)
  obtain ⟨k, R, sa, sr, sn, sd, V, se⟩ := s
  simp only [sgOf] at PTS PT2 PT3 ⊢
  have hN := new_seg hB2 27 k (.slice B1 n1 d1) sa sr sn sd (.slice B2 n2 d2) se
  replace ho := ho.below (below_alloc w2 (sgO 27 k (.slice B1 n1 d1) sa sr sn sd (.slice B2 n2 d2) se))
  clear hB2
  go_upto_region 7 with (fail)
  generalize w2.alloc (sgO 27 k (.slice B1 n1 d1) sa sr sn sd (.slice B2 n2 d2) se) = w2' at *
  generalize w2.heap.size = g at *
  obtain ⟨⟨kz0, kc0, kf0⟩, ⟨kz1, kc1, kf1⟩, ⟨kz2, kc2, kf2⟩, ⟨kz3, kc3, kf3⟩, ⟨kz4, kc4, kf4⟩, ⟨kz5, kc5, kf5⟩, ⟨kz6, kc6, kf6⟩, ⟨kz7, kc7, kf7⟩, _⟩ := hN.2
  go_wp2_with fail
  refine (PTS.out _ _ _ ho.readsR ho.reads).mono ?_
  rintro e w3 ⟨rfl, hb⟩
  replace hN := hN.next hb
  replace ho := ho.below hb
  clear hb PTS
  (try clear hHeld0); (try clear hHeld1); (try clear hHeld2); (try clear hHeld3); (try clear hHeld4); (try clear hHeld5); (try clear hHeld6); (try clear hHeld7); (try clear hHeld8); (try clear hHeld9); (try clear hHeld10); (try clear hHeld11); (try clear hHeld12); (try clear hHeld13); (try clear hT0); (try clear kz0 kc0 kf0); (try clear kz1 kc1 kf1); (try clear kz2 kc2 kf2); (try clear kz3 kc3 kf3); (try clear kz4 kc4 kf4); (try clear kz5 kc5 kf5); (try clear kz6 kc6 kf6); (try clear kz7 kc7 kf7); (try clear kz8 kc8 kf8); (try clear kz9 kc9 kf9); (try clear kz10 kc10 kf10); (try clear kz11 kc11 kf11); (try clear kz12 kc12 kf12); (try clear kz13 kc13 kf13); (try clear t0z0 t0c0 t0f0); (try clear t0z1 t0c1 t0f1)
  (try clear kz14 kc14 kf14); (try clear kz15 kc15 kf15); (try clear kz16 kc16 kf16); (try clear kz17 kc17 kf17); (try clear kz18 kc18 kf18); (try clear kz19 kc19 kf19); (try clear kz20 kc20 kf20); (try clear kz21 kc21 kf21); (try clear kz22 kc22 kf22); (try clear kz23 kc23 kf23)
  have hM : Keeps w [(w3.heap.size, 0, .int .i64 p0), (w3.heap.size, 1, .int .i64 p1), (w3.heap.size, 2, .int .i64 p2), (w3.heap.size, 3, .int .i64 p3), (w3.heap.size, 4, .int .u64 p4)] (w3.alloc (.cells #[.int .i64 p0, .int .i64 p1, .int .i64 p2, .int .i64 p3, .int .u64 p4] 59)) := ⟨(hN.alloc _).1, by simp [Cells, go_sem]⟩
  replace hN := (hN.alloc (.cells #[.int .i64 p0, .int .i64 p1, .int .i64 p2, .int .i64 p3, .int .u64 p4] 59)).app hM
  replace ho := ho.below (below_alloc w3 (.cells #[.int .i64 p0, .int .i64 p1, .int .i64 p2, .int .i64 p3, .int .u64 p4] 59))
  clear hM
  go_upto_region 8 with (fail)
  generalize w3.alloc (.cells #[.int .i64 p0, .int .i64 p1, .int .i64 p2, .int .i64 p3, .int .u64 p4] 59) = w3' at *
  generalize w3.heap.size = g1 at *
  obtain ⟨⟨kz0, kc0, kf0⟩, ⟨kz1, kc1, kf1⟩, ⟨kz2, kc2, kf2⟩, ⟨kz3, kc3, kf3⟩, ⟨kz4, kc4, kf4⟩, ⟨kz5, kc5, kf5⟩, ⟨kz6, kc6, kf6⟩, ⟨kz7, kc7, kf7⟩, ⟨kz8, kc8, kf8⟩, ⟨kz9, kc9, kf9⟩, ⟨kz10, kc10, kf10⟩, ⟨kz11, kc11, kf11⟩, ⟨kz12, kc12, kf12⟩, _⟩ := hN.2
  go_wp2_with fail
  refine (PT2.out _ _ _ ho.readsR ho.reads).mono ?_
  rintro e w4 ⟨rfl, hb⟩
  replace hN := hN.next hb
  replace ho := ho.below hb
  clear hb PT2
  (try clear hHeld0); (try clear hHeld1); (try clear hHeld2); (try clear hHeld3); (try clear hHeld4); (try clear hHeld5); (try clear hHeld6); (try clear hHeld7); (try clear hHeld8); (try clear hHeld9); (try clear hHeld10); (try clear hHeld11); (try clear hHeld12); (try clear hHeld13); (try clear hT0); (try clear kz0 kc0 kf0); (try clear kz1 kc1 kf1); (try clear kz2 kc2 kf2); (try clear kz3 kc3 kf3); (try clear kz4 kc4 kf4); (try clear kz5 kc5 kf5); (try clear kz6 kc6 kf6); (try clear kz7 kc7 kf7); (try clear kz8 kc8 kf8); (try clear kz9 kc9 kf9); (try clear kz10 kc10 kf10); (try clear kz11 kc11 kf11); (try clear kz12 kc12 kf12); (try clear kz13 kc13 kf13); (try clear t0z0 t0c0 t0f0); (try clear t0z1 t0c1 t0f1)
  (try clear kz14 kc14 kf14); (try clear kz15 kc15 kf15); (try clear kz16 kc16 kf16); (try clear kz17 kc17 kf17); (try clear kz18 kc18 kf18); (try clear kz19 kc19 kf19); (try clear kz20 kc20 kf20); (try clear kz21 kc21 kf21); (try clear kz22 kc22 kf22); (try clear kz23 kc23 kf23)
  have hM : Keeps w [(w4.heap.size, 0, .int .i64 q0), (w4.heap.size, 1, .int .i64 q1), (w4.heap.size, 2, .int .i64 q2), (w4.heap.size, 3, .int .i64 q3), (w4.heap.size, 4, .int .u64 q4)] (w4.alloc (.cells #[.int .i64 q0, .int .i64 q1, .int .i64 q2, .int .i64 q3, .int .u64 q4] 59)) := ⟨(hN.alloc _).1, by simp [Cells, go_sem]⟩
  replace hN := (hN.alloc (.cells #[.int .i64 q0, .int .i64 q1, .int .i64 q2, .int .i64 q3, .int .u64 q4] 59)).app hM
  replace ho := ho.below (below_alloc w4 (.cells #[.int .i64 q0, .int .i64 q1, .int .i64 q2, .int .i64 q3, .int .u64 q4] 59))
  clear hM
  go_upto_region 9 with (fail)
  generalize w4.alloc (.cells #[.int .i64 q0, .int .i64 q1, .int .i64 q2, .int .i64 q3, .int .u64 q4] 59) = w4' at *
  generalize w4.heap.size = g2 at *
  obtain ⟨⟨kz0, kc0, kf0⟩, ⟨kz1, kc1, kf1⟩, ⟨kz2, kc2, kf2⟩, ⟨kz3, kc3, kf3⟩, ⟨kz4, kc4, kf4⟩, ⟨kz5, kc5, kf5⟩, ⟨kz6, kc6, kf6⟩, ⟨kz7, kc7, kf7⟩, ⟨kz8, kc8, kf8⟩, ⟨kz9, kc9, kf9⟩, ⟨kz10, kc10, kf10⟩, ⟨kz11, kc11, kf11⟩, ⟨kz12, kc12, kf12⟩, ⟨kz13, kc13, kf13⟩, ⟨kz14, kc14, kf14⟩, ⟨kz15, kc15, kf15⟩, ⟨kz16, kc16, kf16⟩, ⟨kz17, kc17, kf17⟩, _⟩ := hN.2
  go_wp2_with fail
  refine (PT3.out _ _ _ ho.readsR ho.reads).mono ?_
  rintro e w5 ⟨rfl, hb⟩
  replace hN := hN.next hb
  clear hb ho PT3
  (try clear hHeld0); (try clear hHeld1); (try clear hHeld2); (try clear hHeld3); (try clear hHeld4); (try clear hHeld5); (try clear hHeld6); (try clear hHeld7); (try clear hHeld8); (try clear hHeld9); (try clear hHeld10); (try clear hHeld11); (try clear hHeld12); (try clear hHeld13); (try clear hT0); (try clear kz0 kc0 kf0); (try clear kz1 kc1 kf1); (try clear kz2 kc2 kf2); (try clear kz3 kc3 kf3); (try clear kz4 kc4 kf4); (try clear kz5 kc5 kf5); (try clear kz6 kc6 kf6); (try clear kz7 kc7 kf7); (try clear kz8 kc8 kf8); (try clear kz9 kc9 kf9); (try clear kz10 kc10 kf10); (try clear kz11 kc11 kf11); (try clear kz12 kc12 kf12); (try clear kz13 kc13 kf13); (try clear t0z0 t0c0 t0f0); (try clear t0z1 t0c1 t0f1)
  (try clear kz14 kc14 kf14); (try clear kz15 kc15 kf15); (try clear kz16 kc16 kf16); (try clear kz17 kc17 kf17); (try clear kz18 kc18 kf18); (try clear kz19 kc19 kf19); (try clear kz20 kc20 kf20); (try clear kz21 kc21 kf21); (try clear kz22 kc22 kf22); (try clear kz23 kc23 kf23)
  have hM : Keeps w [(w5.heap.size, 0, .int .i64 r0), (w5.heap.size, 1, .int .i64 r1), (w5.heap.size, 2, .int .i64 r2), (w5.heap.size, 3, .int .i64 r3), (w5.heap.size, 4, .int .u64 r4)] (w5.alloc (.cells #[.int .i64 r0, .int .i64 r1, .int .i64 r2, .int .i64 r3, .int .u64 r4] 59)) := ⟨(hN.alloc _).1, by simp [Cells, go_sem]⟩
  replace hN := (hN.sub (L' := [(g1, 0, .int .i64 p0), (g1, 1, .int .i64 p1), (g1, 2, .int .i64 p2), (g1, 3, .int .i64 p3), (g1, 4, .int .u64 p4)] ++ [(g2, 0, .int .i64 q0), (g2, 1, .int .i64 q1), (g2, 2, .int .i64 q2), (g2, 3, .int .i64 q3), (g2, 4, .int .u64 q4)]) (by simp)).alloc (.cells #[.int .i64 r0, .int .i64 r1, .int .i64 r2, .int .i64 r3, .int .u64 r4] 59) |>.app hM
  clear hM
  go_upto_region 10 with (fail)
  generalize w5.alloc (.cells #[.int .i64 r0, .int .i64 r1, .int .i64 r2, .int .i64 r3, .int .u64 r4] 59) = w5' at *
  generalize w5.heap.size = g3 at *
  obtain ⟨⟨kz0, kc0, kf0⟩, ⟨kz1, kc1, kf1⟩, ⟨kz2, kc2, kf2⟩, ⟨kz3, kc3, kf3⟩, ⟨kz4, kc4, kf4⟩, ⟨kz5, kc5, kf5⟩, ⟨kz6, kc6, kf6⟩, ⟨kz7, kc7, kf7⟩, ⟨kz8, kc8, kf8⟩, ⟨kz9, kc9, kf9⟩, ⟨kz10, kc10, kf10⟩, ⟨kz11, kc11, kf11⟩, ⟨kz12, kc12, kf12⟩, ⟨kz13, kc13, kf13⟩, ⟨kz14, kc14, kf14⟩, _⟩ := hN.2
  go_wp2_with fail
  refine (TG.out _).mono ?_
  rintro e w6 ⟨rfl, hb⟩
  replace hN := hN.next hb
  clear hb
  (try clear hHeld0); (try clear hHeld1); (try clear hHeld2); (try clear hHeld3); (try clear hHeld4); (try clear hHeld5); (try clear hHeld6); (try clear hHeld7); (try clear hHeld8); (try clear hHeld9); (try clear hHeld10); (try clear hHeld11); (try clear hHeld12); (try clear hHeld13); (try clear hT0); (try clear kz0 kc0 kf0); (try clear kz1 kc1 kf1); (try clear kz2 kc2 kf2); (try clear kz3 kc3 kf3); (try clear kz4 kc4 kf4); (try clear kz5 kc5 kf5); (try clear kz6 kc6 kf6); (try clear kz7 kc7 kf7); (try clear kz8 kc8 kf8); (try clear kz9 kc9 kf9); (try clear kz10 kc10 kf10); (try clear kz11 kc11 kf11); (try clear kz12 kc12 kf12); (try clear kz13 kc13 kf13); (try clear t0z0 t0c0 t0f0); (try clear t0z1 t0c1 t0f1)
  (try clear kz14 kc14 kf14)
  have hM : Keeps w [(w6.heap.size, 0, .int .i64 r0), (w6.heap.size, 1, .int .i64 r1), (w6.heap.size, 2, .int .i64 r2), (w6.heap.size, 3, .int .i64 r3), (w6.heap.size, 4, .int .u64 r4)] (w6.alloc (.cells #[.int .i64 r0, .int .i64 r1, .int .i64 r2, .int .i64 r3, .int .u64 r4] 59)) := ⟨(hN.alloc _).1, by simp [Cells, go_sem]⟩
  replace hN := (hN.alloc (.cells #[.int .i64 r0, .int .i64 r1, .int .i64 r2, .int .i64 r3, .int .u64 r4] 59)).app hM
  go_upto_region 17 with (fail)
  generalize w6.alloc (.cells #[.int .i64 r0, .int .i64 r1, .int .i64 r2, .int .i64 r3, .int .u64 r4] 59) = w6' at *
  generalize w6.heap.size = g4 at *
  obtain ⟨⟨kz0, kc0, kf0⟩, ⟨kz1, kc1, kf1⟩, ⟨kz2, kc2, kf2⟩, ⟨kz3, kc3, kf3⟩, ⟨kz4, kc4, kf4⟩, ⟨kz5, kc5, kf5⟩, ⟨kz6, kc6, kf6⟩, ⟨kz7, kc7, kf7⟩, ⟨kz8, kc8, kf8⟩, ⟨kz9, kc9, kf9⟩, ⟨kz10, kc10, kf10⟩, ⟨kz11, kc11, kf11⟩, ⟨kz12, kc12, kf12⟩, ⟨kz13, kc13, kf13⟩, ⟨kz14, kc14, kf14⟩, ⟨kz15, kc15, kf15⟩, ⟨kz16, kc16, kf16⟩, ⟨kz17, kc17, kf17⟩, ⟨kz18, kc18, kf18⟩, ⟨kz19, kc19, kf19⟩, _⟩ := hN.2
  go_wp2_with fail
  go_ret
  exact ⟨rfl, hN.1⟩
theorem parted_any (x : Sg) (hR : x.R.length ≤ 9223372036854775807) (hV : x.V.length ≤ 9223372036854775807) (a m b : Int) (hm1 : -9223372036854775808 ≤ m) (hb1 : b ≤ 9223372036854775807) (v0 u0 : Value) (w : World) (h : ReadsR w v0 x.R) (hu : Reads .i64 w u0 x.V) :
    Calls Tryz.prog 9 #[sgOf x v0 u0, .int .i64 a, .int .i64 m, .int .i64 b] w (Ret w (.bool true)) := by
  have WK := Lib.hid (fun W => wakes_any W)
  have OW := Lib.hid (fun W (hb : Below w.heap.size w W) => own_any x hR hV v0 u0 W (h.below hb) (hu.below hb))
  have h1 : (takeS x).R.length ≤ 1000000 := by unfold takeS; simp only; rw [List.length_take]; omega
  have h2 : (takeS x).V.length ≤ 1000000 := by unfold takeS; simp only; rw [List.length_take]; omega
  generalize takeS x = s at *
  have CP := fun y z => callP s h1 h2 y z
  by_cases g1 : m < a
  · exact parted_other x v0 u0 s a m b w WK OW (.inl (decide_eq_true g1)) _ _ _ _ _ _ (by unfold partC; split <;> (try split) <;> simp) (Lib.hid (CP b a))
  by_cases g2 : b ≤ m
  · exact parted_other x v0 u0 s a m b w WK OW (.inr ⟨decide_eq_false g1, decide_eq_true g2⟩) _ _ _ _ _ _ (by unfold partC; split <;> (try split) <;> simp) (Lib.hid (CP b a))
  have d1 := decide_eq_false g1
  have d2 := decide_eq_false g2
  have hm : wrap64 (m + 1) = m + 1 := i64_keeps (by omega) (by omega)
  have C1 := CP a m
  have C2 := CP (m + 1) b
  have C3 := CP a b
  cases g : segB s
  · have e : ∀ y z, partC s y z = 210 := fun y z => by unfold partC; rw [g]; rfl
    rw [e] at C1 C2 C3
    exact parted_none x v0 u0 s a m b w WK OW d1 d2 hm _ _ _ _ _ _ _ _ _ _ _ _ _ _ _ (Lib.hid C1) (Lib.hid C2) (Lib.hid C3)
  · have ep : ∀ y z, partsOf s y z = valsIn s y z := fun y z => by unfold partsOf; rw [g]; rfl
    have hp := valsIn_parted g (a := a) (mid := m) (b := b) (by omega) (by omega)
    have ec : ∀ y z, partC s y z = if valsIn s y z = [] then 9 else 0 := fun y z => by unfold partC; rw [g]; rfl
    have hall : ∀ y z, (valsIn s y z).length ≤ 300 ∧ ∀ v ∈ valsIn s y z, backB v = true := fun y z => by
      have hT := times_ok ((segB_iff s).1 g).1
      have hvl := vals_length g
      rw [valsIn_cut g]
      refine ⟨?_, fun v hv => ?_⟩
      · unfold cutL; rw [List.length_take, List.length_drop]; have := hT.few; omega
      · obtain ⟨q, _, _, hq⟩ := cutL_mem hv
        exact ((segB_iff s).1 g).2.2.2.2 v (List.mem_of_getElem? hq)
    rw [ep, ec] at C1 C2 C3
    rw [hp] at C3
    have b1 := hall a m
    have b2 := hall (m + 1) b
    generalize valsIn s a m = l at *
    generalize valsIn s (m + 1) b = k at *
    by_cases n1 : l = []
    · subst n1
      rw [if_pos rfl] at C1
      rw [List.nil_append] at C3
      exact parted_back x v0 u0 s a m b w WK OW d1 d2 hm _ _ _ _ _ _ _ _ _ _ _ (Lib.hid C1) (Lib.hid C2) (Lib.hid C3)
    · rw [if_neg n1] at C1
      have n3 : l ++ k ≠ [] := by intro e; exact n1 (List.append_eq_nil_iff.1 e).1
      rw [if_neg n3] at C3
      by_cases n2 : k = []
      · subst n2
        rw [if_pos rfl] at C2
        rw [List.append_nil] at C3
        exact parted_front x v0 u0 s a m b w WK OW d1 d2 hm _ _ _ _ _ _ _ _ _ _ (Lib.hid C1) (Lib.hid C2) (Lib.hid C3)
      · rw [if_neg n2] at C2
        exact parted_both x v0 u0 s a m b w WK OW d1 d2 hm _ _ _ _ _ _ _ _ _ _ _ _ _ _ _ (Lib.hid C1) (Lib.hid C2) (Lib.hid C3) (Lib.hid (fun W => together_any l k n1 n2 b1.1 b2.1 b1.2 b2.2 W))
end Go.Proofs.YtgmflnfdmcphnaaGreat.P11
