/-
  Layer 11: the law SegFolds holds of every input. Conditions: those of the law's row.
-/
import Derived.Test.YtgmflnfdmcphnaaGreatSgX
import Derived.Test.YtgmflnfdmcphnaaGreatPaH
namespace Go.Proofs.YtgmflnfdmcphnaaGreat.P11
open Go.RowKit Go.Shelf Go.Proofs.YtgmflnfdmcphnaaGreat.P7

set_option maxRecDepth 100000 in
set_option maxHeartbeats 4000000 in
theorem folds_bad (x : Sg) (v0 u0 : Value) (s : Sg) (a b : Int) (w : World) (WK : Hid (∀ W, Calls Tryz.prog 11 #[] W (Ret W (.bool true)))) (OW : Hid (∀ W, Below w.heap.size w W → Calls Tryz.prog 12 #[sgOf x v0 u0] W (OwnS W s))) (p0 p1 p2 p3 p4 : Int) (PTX : Hid (∀ v u W, ReadsR W v s.R → Reads .i64 W u s.V → Calls Tryz.prog 26 #[sgOf s v u] W (Ret W (.tuple #[.slice none 0 0, .int .i64 210])))) (PTS : Hid (CallP s a b p0 p1 p2 p3 p4 210)) :
    Calls Tryz.prog 8 #[sgOf x v0 u0, .int .i64 a, .int .i64 b] w (Ret w (.bool true)) := by
  go_enter Tryz.func8, Tryz.ntmps8
  go_wp2_with fail
  refine (WK.out _).mono ?_
  rintro e w1 ⟨rfl, hb⟩
  have hK := new_seg (Below.refl w.heap.size w) 27 x.k v0 x.a x.r x.n x.d u0 x.e
  replace hK := hK.next hb
  clear hb
  obtain ⟨⟨kz0, kc0, kf0⟩, ⟨kz1, kc1, kf1⟩, ⟨kz2, kc2, kf2⟩, ⟨kz3, kc3, kf3⟩, ⟨kz4, kc4, kf4⟩, ⟨kz5, kc5, kf5⟩, ⟨kz6, kc6, kf6⟩, ⟨kz7, kc7, kf7⟩, _⟩ := hK.2
  go_wp2_with fail
  refine (OW.out _ hK.1).mono ?_
  rintro e w2 hq
  obtain ⟨B1, n1, d1, B2, n2, d2, rfl, hb, ho⟩ := own_got hq
  have hB2 := under hK.1 hb
  clear hb hK hq
  (try clear hHeld0); (try clear hHeld1); (try clear hHeld2); (try clear hHeld3); (try clear hHeld4); (try clear hHeld5); (try clear hHeld6); (try clear hHeld7); (try clear hHeld8); (try clear hHeld9); (try clear hHeld10); (try clear hHeld11); (try clear hHeld12); (try clear hHeld13); (try clear hT0); (try clear kz0 kc0 kf0); (try clear kz1 kc1 kf1); (try clear kz2 kc2 kf2); (try clear kz3 kc3 kf3); (try clear kz4 kc4 kf4); (try clear kz5 kc5 kf5); (try clear kz6 kc6 kf6); (try clear kz7 kc7 kf7); (try clear kz8 kc8 kf8); (try clear kz9 kc9 kf9); (try clear kz10 kc10 kf10); (try clear kz11 kc11 kf11); (try clear kz12 kc12 kf12); (try clear kz13 kc13 kf13); (try clear t0z0 t0c0 t0f0); (try clear t0z1 t0c1 t0f1)
  obtain ⟨k, R, sa, sr, sn, sd, V, se⟩ := s
  simp only [sgOf] at PTS PTX ⊢
  have hN := new_seg hB2 27 k (.slice B1 n1 d1) sa sr sn sd (.slice B2 n2 d2) se
  replace ho := ho.below (below_alloc w2 (sgO 27 k (.slice B1 n1 d1) sa sr sn sd (.slice B2 n2 d2) se))
  clear hB2
  go_upto_region 4 with (fail)
  generalize w2.alloc (sgO 27 k (.slice B1 n1 d1) sa sr sn sd (.slice B2 n2 d2) se) = w2' at *
  generalize w2.heap.size = g at *
  obtain ⟨⟨kz0, kc0, kf0⟩, ⟨kz1, kc1, kf1⟩, ⟨kz2, kc2, kf2⟩, ⟨kz3, kc3, kf3⟩, ⟨kz4, kc4, kf4⟩, ⟨kz5, kc5, kf5⟩, ⟨kz6, kc6, kf6⟩, ⟨kz7, kc7, kf7⟩, _⟩ := hN.2
  go_wp2_with fail
  refine (PTX.out _ _ _ ho.readsR ho.reads).mono ?_
  rintro e w3 ⟨rfl, hb⟩
  replace hN := hN.next hb
  replace ho := ho.below hb
  clear hb PTX
  (try clear hHeld0); (try clear hHeld1); (try clear hHeld2); (try clear hHeld3); (try clear hHeld4); (try clear hHeld5); (try clear hHeld6); (try clear hHeld7); (try clear hHeld8); (try clear hHeld9); (try clear hHeld10); (try clear hHeld11); (try clear hHeld12); (try clear hHeld13); (try clear hT0); (try clear kz0 kc0 kf0); (try clear kz1 kc1 kf1); (try clear kz2 kc2 kf2); (try clear kz3 kc3 kf3); (try clear kz4 kc4 kf4); (try clear kz5 kc5 kf5); (try clear kz6 kc6 kf6); (try clear kz7 kc7 kf7); (try clear kz8 kc8 kf8); (try clear kz9 kc9 kf9); (try clear kz10 kc10 kf10); (try clear kz11 kc11 kf11); (try clear kz12 kc12 kf12); (try clear kz13 kc13 kf13); (try clear t0z0 t0c0 t0f0); (try clear t0z1 t0c1 t0f1)
  obtain ⟨⟨kz0, kc0, kf0⟩, ⟨kz1, kc1, kf1⟩, ⟨kz2, kc2, kf2⟩, ⟨kz3, kc3, kf3⟩, ⟨kz4, kc4, kf4⟩, ⟨kz5, kc5, kf5⟩, ⟨kz6, kc6, kf6⟩, ⟨kz7, kc7, kf7⟩, _⟩ := hN.2
  go_wp2_with fail
  refine (PTS.out _ _ _ ho.readsR ho.reads).mono ?_
  rintro e w4 ⟨rfl, hb⟩
  have hB := under hN.1 hb
  clear ho hb hN PTS
  (try clear hHeld0); (try clear hHeld1); (try clear hHeld2); (try clear hHeld3); (try clear hHeld4); (try clear hHeld5); (try clear hHeld6); (try clear hHeld7); (try clear hHeld8); (try clear hHeld9); (try clear hHeld10); (try clear hHeld11); (try clear hHeld12); (try clear hHeld13); (try clear hT0); (try clear kz0 kc0 kf0); (try clear kz1 kc1 kf1); (try clear kz2 kc2 kf2); (try clear kz3 kc3 kf3); (try clear kz4 kc4 kf4); (try clear kz5 kc5 kf5); (try clear kz6 kc6 kf6); (try clear kz7 kc7 kf7); (try clear kz8 kc8 kf8); (try clear kz9 kc9 kf9); (try clear kz10 kc10 kf10); (try clear kz11 kc11 kf11); (try clear kz12 kc12 kf12); (try clear kz13 kc13 kf13); (try clear t0z0 t0c0 t0f0); (try clear t0z1 t0c1 t0f1)
  go_wp2_with fail
  go_ret
  exact ⟨rfl, hB.alloc hB.size _⟩
/-- Has some number been met? -/
def SomeIs (b : Bool) (l : List Int) : Prop := b = false ∧ l = [] ∨ b = true ∧ l ≠ []
/-- The fields of what numbers come to. -/
def PartIs (l : List Int) (c lo hi z0 z1 : Int) : Prop := c = (l.length : Int) ∧ lo = minL l ∧ hi = maxL l ∧ z0 = rhi (sumL l) ∧ z1 = rlo (sumL l)
theorem part_is (l : List Int) : PartIs l l.length (minL l) (maxL l) (rhi (sumL l)) (rlo (sumL l)) := ⟨rfl, rfl, rfl, rfl, rfl⟩
theorem part_is_none : PartIs [] 0 0 0 0 0 := ⟨rfl, rfl, rfl, zero_words.1.symm, zero_words.2.symm⟩
theorem part_is_one (x : Int) : PartIs [x] 1 x x (rhi x) (rlo x) := by
  have e : sumL [x] = x := by simp [sumL]
  exact ⟨rfl, rfl, rfl, by rw [e], by rw [e]⟩
theorem together_is {l m : List Int} {c1 l1 h1 x0 x1 c2 l2 h2 y0 y1 : Int} (i1 : PartIs l c1 l1 h1 x0 x1) (i2 : PartIs m c2 l2 h2 y0 y1) (hl : l ≠ []) (hm : m ≠ []) (hn : l.length ≤ 300) (hn2 : m.length ≤ 300) (bl : ∀ v ∈ l, backB v = true) (bm : ∀ v ∈ m, backB v = true) (w : World) :
    Calls Tryz.prog 34 #[fiveV c1 l1 h1 x0 x1, fiveV c2 l2 h2 y0 y1] w (fun e w' => ∃ c lo hi z0 z1, e = .returned (.tuple #[fiveV c lo hi z0 z1, .bool true]) ∧ PartIs (l ++ m) c lo hi z0 z1 ∧ Below w.heap.size w w') := by
  have h := together_any l m hl hm hn hn2 bl bm w
  obtain ⟨rfl, rfl, rfl, rfl, rfl⟩ := i1
  obtain ⟨rfl, rfl, rfl, rfl, rfl⟩ := i2
  exact h.mono fun e w' ⟨he, hb⟩ => ⟨_, _, _, _, _, he, part_is _, hb⟩
set_option maxRecDepth 100000 in
set_option maxHeartbeats 8000000 in
theorem folds_good (x : Sg) (v0 u0 : Value) (s : Sg) (a b : Int) (w : World) (WK : Hid (∀ W, Calls Tryz.prog 11 #[] W (Ret W (.bool true)))) (OW : Hid (∀ W, Below w.heap.size w W → Calls Tryz.prog 12 #[sgOf x v0 u0] W (OwnS W s))) (full : List Pn) (N : Nat) (hN256 : N ≤ 256) (HNL : Hid (full.length = N)) (F : Nat → List Int) (F0 : Hid (F 0 = [])) (FS : Hid (∀ k p, full[k]? = some p → F (k + 1) = if inP a b (p.t, p.v) then F k ++ [p.v] else F k)) (FB : Hid (∀ k, (F k).length ≤ 300 ∧ ∀ v ∈ F k, backB v = true)) (PB : Hid (∀ p ∈ full, backB p.v = true))
    (p0 p1 p2 p3 p4 code : Int) (HP : Hid (PartIs (F N) p0 p1 p2 p3 p4 ∧ (F N = [] ∧ code = 9 ∨ F N ≠ [] ∧ code = 0))) (PTX : Hid (∀ v u W, ReadsR W v s.R → Reads .i64 W u s.V → Calls Tryz.prog 26 #[sgOf s v u] W (GotP W full))) (PTS : Hid (CallP s a b p0 p1 p2 p3 p4 code)) :
    Calls Tryz.prog 8 #[sgOf x v0 u0, .int .i64 a, .int .i64 b] w (Ret w (.bool true)) := by
  go_enter Tryz.func8, Tryz.ntmps8
  go_wp2_with fail
  refine (WK.out _).mono ?_
  rintro e w1 ⟨rfl, hb⟩
  have hK := new_seg (Below.refl w.heap.size w) 27 x.k v0 x.a x.r x.n x.d u0 x.e
  replace hK := hK.next hb
  clear hb
  obtain ⟨⟨kz0, kc0, kf0⟩, ⟨kz1, kc1, kf1⟩, ⟨kz2, kc2, kf2⟩, ⟨kz3, kc3, kf3⟩, ⟨kz4, kc4, kf4⟩, ⟨kz5, kc5, kf5⟩, ⟨kz6, kc6, kf6⟩, ⟨kz7, kc7, kf7⟩, _⟩ := hK.2
  go_wp2_with fail
  refine (OW.out _ hK.1).mono ?_
  rintro e w2 hq
  obtain ⟨B1, n1, d1, B2, n2, d2, rfl, hb, ho⟩ := own_got hq
  have hB2 := under hK.1 hb
  clear hb hK hq
  (try clear hHeld0); (try clear hHeld1); (try clear hHeld2); (try clear hHeld3); (try clear hHeld4); (try clear hHeld5); (try clear hHeld6); (try clear hHeld7); (try clear hHeld8); (try clear hHeld9); (try clear hHeld10); (try clear hHeld11); (try clear hHeld12); (try clear hHeld13); (try clear hT0); (try clear kz0 kc0 kf0); (try clear kz1 kc1 kf1); (try clear kz2 kc2 kf2); (try clear kz3 kc3 kf3); (try clear kz4 kc4 kf4); (try clear kz5 kc5 kf5); (try clear kz6 kc6 kf6); (try clear kz7 kc7 kf7); (try clear kz8 kc8 kf8); (try clear kz9 kc9 kf9); (try clear kz10 kc10 kf10); (try clear kz11 kc11 kf11); (try clear kz12 kc12 kf12); (try clear kz13 kc13 kf13); (try clear t0z0 t0c0 t0f0); (try clear t0z1 t0c1 t0f1)
  obtain ⟨k, R, sa, sr, sn, sd, V, se⟩ := s
  simp only [sgOf] at PTS PTX ⊢
  have hN := new_seg hB2 27 k (.slice B1 n1 d1) sa sr sn sd (.slice B2 n2 d2) se
  replace ho := ho.below (below_alloc w2 (sgO 27 k (.slice B1 n1 d1) sa sr sn sd (.slice B2 n2 d2) se))
  clear hB2
  go_upto_region 4 with (fail)
  generalize w2.alloc (sgO 27 k (.slice B1 n1 d1) sa sr sn sd (.slice B2 n2 d2) se) = w2' at *
  generalize w2.heap.size = g at *
  obtain ⟨⟨kz0, kc0, kf0⟩, ⟨kz1, kc1, kf1⟩, ⟨kz2, kc2, kf2⟩, ⟨kz3, kc3, kf3⟩, ⟨kz4, kc4, kf4⟩, ⟨kz5, kc5, kf5⟩, ⟨kz6, kc6, kf6⟩, ⟨kz7, kc7, kf7⟩, _⟩ := hN.2
  go_wp2_with fail
  refine (PTX.out _ _ _ ho.readsR ho.reads).mono ?_
  rintro e w3 ⟨A3, n3, c3, rfl, hb, hpts⟩
  have rp := readsP_own hpts
  clear hpts
  replace hN := hN.next hb
  replace ho := ho.below hb
  clear hb PTX
  obtain ⟨A', c', e', hc3, hk3⟩ := rp
  cases e'
  rw [List.length_map, HNL.out] at hc3 ⊢
  (try clear hHeld0); (try clear hHeld1); (try clear hHeld2); (try clear hHeld3); (try clear hHeld4); (try clear hHeld5); (try clear hHeld6); (try clear hHeld7); (try clear hHeld8); (try clear hHeld9); (try clear hHeld10); (try clear hHeld11); (try clear hHeld12); (try clear hHeld13); (try clear hT0); (try clear kz0 kc0 kf0); (try clear kz1 kc1 kf1); (try clear kz2 kc2 kf2); (try clear kz3 kc3 kf3); (try clear kz4 kc4 kf4); (try clear kz5 kc5 kf5); (try clear kz6 kc6 kf6); (try clear kz7 kc7 kf7); (try clear kz8 kc8 kf8); (try clear kz9 kc9 kf9); (try clear kz10 kc10 kf10); (try clear kz11 kc11 kf11); (try clear kz12 kc12 kf12); (try clear kz13 kc13 kf13); (try clear t0z0 t0c0 t0f0); (try clear t0z1 t0c1 t0f1)
  obtain ⟨⟨kz0, kc0, kf0⟩, ⟨kz1, kc1, kf1⟩, ⟨kz2, kc2, kf2⟩, ⟨kz3, kc3, kf3⟩, ⟨kz4, kc4, kf4⟩, ⟨kz5, kc5, kf5⟩, ⟨kz6, kc6, kf6⟩, ⟨kz7, kc7, kf7⟩, _⟩ := hN.2
  go_wp2_with fail
  refine (PTS.out _ _ _ ho.readsR ho.reads).mono ?_
  rintro e w4 ⟨rfl, hb⟩
  have HK3 : Hid (∀ k p, full[k]? = some p → ∃ bb off, A3 = some ⟨bb, off, none⟩ ∧ bb < w4.heap.size ∧ w4.cell? ⟨bb, off + k * 2, none⟩ = some (.int .i64 p.t) ∧ w4.cell? ⟨bb, off + k * 2 + 1, none⟩ = some (.int .i64 p.v)) := Lib.hid (fun k p hp => by
    obtain ⟨bb, off, e1, e2, e3, e4⟩ := hk3 k (p.t, p.v) (by rw [List.getElem?_map, hp]; rfl)
    exact ⟨bb, off, e1, Nat.lt_of_lt_of_le e2 hb.size, (hb.cell (p := ⟨bb, off + k * 2, none⟩) e2).trans e3, (hb.cell (p := ⟨bb, off + k * 2 + 1, none⟩) e2).trans e4⟩)
  replace hN := hN.next hb
  clear hb ho PTS hk3
  (try clear hHeld0); (try clear hHeld1); (try clear hHeld2); (try clear hHeld3); (try clear hHeld4); (try clear hHeld5); (try clear hHeld6); (try clear hHeld7); (try clear hHeld8); (try clear hHeld9); (try clear hHeld10); (try clear hHeld11); (try clear hHeld12); (try clear hHeld13); (try clear hT0); (try clear kz0 kc0 kf0); (try clear kz1 kc1 kf1); (try clear kz2 kc2 kf2); (try clear kz3 kc3 kf3); (try clear kz4 kc4 kf4); (try clear kz5 kc5 kf5); (try clear kz6 kc6 kf6); (try clear kz7 kc7 kf7); (try clear kz8 kc8 kf8); (try clear kz9 kc9 kf9); (try clear kz10 kc10 kf10); (try clear kz11 kc11 kf11); (try clear kz12 kc12 kf12); (try clear kz13 kc13 kf13); (try clear t0z0 t0c0 t0f0); (try clear t0z1 t0c1 t0f1)
  have hG : Keeps w [(w4.heap.size, 0, .int .i64 p0), (w4.heap.size, 1, .int .i64 p1), (w4.heap.size, 2, .int .i64 p2), (w4.heap.size, 3, .int .i64 p3), (w4.heap.size, 4, .int .u64 p4)] (w4.alloc (.cells #[.int .i64 p0, .int .i64 p1, .int .i64 p2, .int .i64 p3, .int .u64 p4] 59)) := ⟨(hN.alloc _).1, by simp [Cells, go_sem]⟩
  have HK4 : Hid (∀ k p, full[k]? = some p → ∃ bb off, A3 = some ⟨bb, off, none⟩ ∧ bb < (w4.alloc (.cells #[.int .i64 p0, .int .i64 p1, .int .i64 p2, .int .i64 p3, .int .u64 p4] 59)).heap.size ∧ (w4.alloc (.cells #[.int .i64 p0, .int .i64 p1, .int .i64 p2, .int .i64 p3, .int .u64 p4] 59)).cell? ⟨bb, off + k * 2, none⟩ = some (.int .i64 p.t) ∧ (w4.alloc (.cells #[.int .i64 p0, .int .i64 p1, .int .i64 p2, .int .i64 p3, .int .u64 p4] 59)).cell? ⟨bb, off + k * 2 + 1, none⟩ = some (.int .i64 p.v)) := Lib.hid (fun k p hp => by
    obtain ⟨bb, off, e1, e2, e3, e4⟩ := HK3.out k p hp
    have hb := below_alloc w4 (.cells #[.int .i64 p0, .int .i64 p1, .int .i64 p2, .int .i64 p3, .int .u64 p4] 59)
    exact ⟨bb, off, e1, Nat.lt_of_lt_of_le e2 hb.size, (hb.cell (p := ⟨bb, off + k * 2, none⟩) e2).trans e3, (hb.cell (p := ⟨bb, off + k * 2 + 1, none⟩) e2).trans e4⟩)
  clear hN HK3
  go_upto_region 6 with (fail)
  generalize w4.alloc (.cells #[.int .i64 p0, .int .i64 p1, .int .i64 p2, .int .i64 p3, .int .u64 p4] 59) = wa at *
  generalize w4.heap.size = g1 at *
  have HG := Lib.hid hG
  clear hG
  have hO : Keeps wa [(wa.heap.size, 0, .int .i64 0), (wa.heap.size, 1, .int .i64 0), (wa.heap.size, 2, .int .i64 0), (wa.heap.size, 3, .int .i64 0), (wa.heap.size, 4, .int .u64 0)] (wa.alloc (.cells #[.int .i64 0, .int .i64 0, .int .i64 0, .int .i64 0, .int .u64 0] 59)) := ⟨below_alloc _ _, by simp [Cells, go_sem]⟩
  go_wp2_with fail
  go_loopw [13, 47] (fun sm i wr => ∃ (k : Nat) (c lo hi z0 z1 : Int) (bo : Bool), sm = .bool bo ∧ i = .int .i64 k ∧ k ≤ N ∧ Hid (PartIs (F k) c lo hi z0 z1 ∧ SomeIs bo (F k)) ∧ Keeps wa [(wa.heap.size, 0, .int .i64 c), (wa.heap.size, 1, .int .i64 lo), (wa.heap.size, 2, .int .i64 hi), (wa.heap.size, 3, .int .i64 z0), (wa.heap.size, 4, .int .u64 z1)] wr) (fun _ i => fun _ => N - (intOf i).toNat)
  case atStart => exact ⟨0, 0, 0, 0, 0, 0, false, rfl, rfl, Nat.zero_le _, Lib.hid ⟨by rw [F0.out]; exact part_is_none, .inl ⟨rfl, F0.out⟩⟩, hO⟩
  case round =>
    obtain ⟨k, c, lo, hi, z0, z1, bo, rfl, rfl, hkl, HF, hH⟩ := hrel
    clear hO F0
    by_cases hlt : k < N
    · obtain ⟨p, hp⟩ : ∃ p, full[k]? = some p := ⟨_, List.getElem?_eq_getElem (by rw [HNL.out]; exact hlt)⟩
      obtain ⟨bb, off, rfl, hbw, hc1, hc2⟩ := HK4.out k _ hp
      have c1 := (hH.1.cell (p := ⟨bb, off + k * 2, none⟩) hbw).trans hc1
      have c2 := (hH.1.cell (p := ⟨bb, off + k * 2 + 1, none⟩) hbw).trans hc2
      have j1 : (k : Int) < (N : Int) := by omega
      have j0 : (0 : Int) ≤ (k : Int) := by omega
      have wk := one_more hlt (by omega)
      have tl := Lib.hid (turn_less hlt)
      have FN := Lib.hid (FS.out k p hp)
      have PV := PB.out p (List.mem_of_getElem? hp)
      obtain ⟨pi, t, y⟩ := p
      simp only at c1 c2 FN PV
      have hgz : wa.heap.size < wr.heap.size := hH.2.1.1
      clear hc1 hc2 hp
      by_cases g1 : t < a
      · have d1 : decide (t < a) = true := by simpa using g1
        have E : Hid (F (k + 1) = F k) := Lib.hid (by rw [FN.out]; unfold inP; simp; omega)
        have hP := hH.alloc (.cells #[.int .i64 t, .int .i64 y] 53)
        clear FN PV hH
        go_wp2_with fail
        go_roundw
        case rel => exact ⟨k + 1, c, lo, hi, z0, z1, bo, rfl, by simp, hlt, by rw [E.out]; exact HF, hP⟩
        case measure => exact tl.out
      have d1 : decide (t < a) = false := by simpa using g1
      by_cases g2 : b < t
      · have d2 : decide (b < t) = true := by simpa using g2
        have E : Hid (F (k + 1) = F k) := Lib.hid (by rw [FN.out]; unfold inP; simp; omega)
        have hP := hH.alloc (.cells #[.int .i64 t, .int .i64 y] 53)
        clear FN PV hH
        go_wp2_with fail
        go_roundw
        case rel => exact ⟨k + 1, c, lo, hi, z0, z1, bo, rfl, by simp, hlt, by rw [E.out]; exact HF, hP⟩
        case measure => exact tl.out
      have d2 : decide (b < t) = false := by simpa using g2
      have E : Hid (F (k + 1) = F k ++ [y]) := Lib.hid (by rw [FN.out]; unfold inP; simp; omega)
      have WO := Lib.hid (fun W => of_any y (by have := (backB_iff y).1 PV; unfold I64; omega) W)
      have P1 : Hid (PartIs [y] 1 y y (rhi y) (rlo y)) := Lib.hid (part_is_one y)
      have PV' : Hid (backB y = true) := Lib.hid PV
      generalize rhi y = q0 at *
      generalize rlo y = q1 at *
      have hL : Keeps wa [(wr.heap.size, 0, .int .i64 t), (wr.heap.size, 1, .int .i64 y), (wa.heap.size, 0, .int .i64 c), (wa.heap.size, 1, .int .i64 lo), (wa.heap.size, 2, .int .i64 hi), (wa.heap.size, 3, .int .i64 z0), (wa.heap.size, 4, .int .u64 z1)] (wr.alloc (.cells #[.int .i64 t, .int .i64 y] 53)) := (newK2 (hH.alloc _)).app (hH.alloc _)
      clear FN PV hH
      go_upto_region 13 with (fail)
      generalize wr.alloc (.cells #[.int .i64 t, .int .i64 y] 53) = wp at *
      generalize wr.heap.size = gp at *
      go_cut [16] (fun s16 wx => ∃ g : Nat, s16 = .pointer (some ⟨g, 0, none⟩) ∧ wa.heap.size < g ∧ Keeps wa [(g, 0, .int .i64 1), (g, 1, .int .i64 y), (g, 2, .int .i64 y), (g, 3, .int .i64 q0), (g, 4, .int .u64 q1), (wa.heap.size, 0, .int .i64 c), (wa.heap.size, 1, .int .i64 lo), (wa.heap.size, 2, .int .i64 hi), (wa.heap.size, 3, .int .i64 z0), (wa.heap.size, 4, .int .u64 z1)] wx)
      case first =>
        refine region_keeps (w0 := wa) (L := [(gp, 0, .int .i64 t), (gp, 1, .int .i64 y), (wa.heap.size, 0, .int .i64 c), (wa.heap.size, 1, .int .i64 lo), (wa.heap.size, 2, .int .i64 hi), (wa.heap.size, 3, .int .i64 z0), (wa.heap.size, 4, .int .u64 z1)]) (by kernel_rfl) hL (fun hHeld0 => ?_)
        refine wpAnyH_take (i := 0) (oi := ⟨some 61, _, _, _, _, _⟩) (v := ?_) rfl (by kernel_rfl) (by kernel_rfl) (by kernel_rfl) (fun _ _ _ h => h) (Or.inl ⟨by rfl, ?_⟩) (by assumption) ?_
        rotate_left
        · intro wq hSw; go_simp; (try with_reducible rfl)
        try simp only [Act.put, List.setIfInBounds_toArray, List.set_cons_zero, List.set_cons_succ]
        refine wpAnyH_take (i := 1) (oi := ⟨some 62, _, _, _, _, _⟩) (v := ?_) rfl (by kernel_rfl) (by kernel_rfl) (by kernel_rfl) (fun _ _ _ h => h) (Or.inl ⟨by rfl, ?_⟩) (by assumption) ?_
        rotate_left
        · intro wq hSw; obtain ⟨⟨qz0, qc0, qf0⟩, ⟨qz1, qc1, qf1⟩, ⟨qz2, qc2, qf2⟩, ⟨qz3, qc3, qf3⟩, ⟨qz4, qc4, qf4⟩, ⟨qz5, qc5, qf5⟩, ⟨qz6, qc6, qf6⟩, _⟩ := hSw.2; go_simp; (try with_reducible rfl)
        try simp only [Act.put, List.setIfInBounds_toArray, List.set_cons_zero, List.set_cons_succ]
        refine wpAnyH_take (i := 2) (oi := ⟨some 63, _, _, _, _, _⟩) (v := ?_) rfl (by kernel_rfl) (by kernel_rfl) (by kernel_rfl) (fun _ _ _ h => h) (Or.inl ⟨by rfl, ?_⟩) (by assumption) ?_
        rotate_left
        · intro wq hSw; go_simp; (try with_reducible rfl)
        try simp only [Act.put, List.setIfInBounds_toArray, List.set_cons_zero, List.set_cons_succ]
        refine wpAnyH_take (i := 3) (oi := ⟨some 64, _, _, _, _, _⟩) (v := ?_) rfl (by kernel_rfl) (by kernel_rfl) (by kernel_rfl) (fun _ _ _ h => h) (Or.inl ⟨by rfl, ?_⟩) (by assumption) ?_
        rotate_left
        · intro wq hSw; obtain ⟨⟨qz0, qc0, qf0⟩, ⟨qz1, qc1, qf1⟩, ⟨qz2, qc2, qf2⟩, ⟨qz3, qc3, qf3⟩, ⟨qz4, qc4, qf4⟩, ⟨qz5, qc5, qf5⟩, ⟨qz6, qc6, qf6⟩, _⟩ := hSw.2; go_simp; (try with_reducible rfl)
        try simp only [Act.put, List.setIfInBounds_toArray, List.set_cons_zero, List.set_cons_succ]
        refine wpAnyH_take (i := 4) (oi := ⟨some 65, _, _, _, _, _⟩) (v := ?_) rfl (by kernel_rfl) (by kernel_rfl) (by kernel_rfl) (fun _ _ _ h => h) (Or.inl ⟨by rfl, ?_⟩) (by assumption) ?_
        rotate_left
        · intro wq hSw; go_simp; (try with_reducible rfl)
        try simp only [Act.put, List.setIfInBounds_toArray, List.set_cons_zero, List.set_cons_succ]
        refine wpAnyH_take (i := 5) (oi := ⟨some 66, _, _, _, _, _⟩) (v := ?_) rfl (by kernel_rfl) (by kernel_rfl) (by kernel_rfl) (fun _ _ _ h => h) (Or.inl ⟨by rfl, ?_⟩) (by assumption) ?_
        rotate_left
        · intro wq hSw; obtain ⟨⟨qz0, qc0, qf0⟩, ⟨qz1, qc1, qf1⟩, ⟨qz2, qc2, qf2⟩, ⟨qz3, qc3, qf3⟩, ⟨qz4, qc4, qf4⟩, ⟨qz5, qc5, qf5⟩, ⟨qz6, qc6, qf6⟩, _⟩ := hSw.2; go_simp; (try with_reducible rfl)
        try simp only [Act.put, List.setIfInBounds_toArray, List.set_cons_zero, List.set_cons_succ]
        refine wpAnyH_ready (rs := [6, 8]) (by kernel_rfl) (by simp) ?_
        refine AllReadyH.cons (o := ⟨some 67, _, _, _, _, _⟩) rfl (fun K hK => ?_) ?_
        go_simp
        ((with_reducible refine (WO.out _).mono ?_); rintro e w6 ⟨rfl, hb⟩)
        refine hK.out _ _ (hHeld0.next hb) (fun hHeld1 => ?_)
        clear hK K
        try clear hb
        try simp only [Act.put, List.setIfInBounds_toArray, List.set_cons_zero, List.set_cons_succ]
        refine wpAnyH_take (i := 7) (oi := ⟨some 68, _, _, _, _, _⟩) (v := ?_) rfl (by kernel_rfl) (by kernel_rfl) (by kernel_rfl) (fun _ _ _ h => h) (Or.inl ⟨by rfl, ?_⟩) (by assumption) ?_
        rotate_left
        · intro wq hSw; go_simp; (try with_reducible rfl)
        try simp only [Act.put, List.setIfInBounds_toArray, List.set_cons_zero, List.set_cons_succ]
        refine wpAnyH_ready (rs := [8]) (by kernel_rfl) (by simp) ?_
        refine AllReadyH.cons (o := ⟨some 16, _, _, _, _, _⟩) rfl (fun K hK => ?_) AllReadyH.nil
        go_simp
        refine hK.out _ _ (by first | exact hHeld1.alloc _ | exact (hHeld1.alloc _).drew) (fun hHeld2 => ?_)
        first | have hN2 := newK5 hHeld2 | have hN2 := newK5d hHeld2
        clear hK K
        try clear hb
        try simp only [Act.put, List.setIfInBounds_toArray, List.set_cons_zero, List.set_cons_succ]
        refine wpAnyH_ready (rs := [9]) (by kernel_rfl) (by simp) ?_
        refine AllReadyH.cons (o := ⟨none, _, _, _, _, _⟩) rfl (fun K hK => ?_) AllReadyH.nil
        have hz0 := hHeld1.1.size; obtain ⟨⟨az0, ac0, af0⟩, ⟨az1, ac1, af1⟩, ⟨az2, ac2, af2⟩, ⟨az3, ac3, af3⟩, ⟨az4, ac4, af4⟩, ⟨az5, ac5, af5⟩, ⟨az6, ac6, af6⟩, _⟩ := hHeld1.2; (try simp at hz0); (try simp at az0); (try simp at az1); (try simp at az2); (try simp at az3); (try simp at az4); (try simp at az5); (try simp at az6)
        obtain ⟨⟨t0z0, t0c0, t0f0⟩, ⟨t0z1, t0c1, t0f1⟩, ⟨t0z2, t0c2, t0f2⟩, ⟨t0z3, t0c3, t0f3⟩, ⟨t0z4, t0c4, t0f4⟩, _⟩ := hN2.2; (try simp at t0z0); (try simp at t0c0); (try simp at t0f0); (try simp at t0z1); (try simp at t0c1); (try simp at t0f1); (try simp at t0z2); (try simp at t0c2); (try simp at t0f2); (try simp at t0z3); (try simp at t0c3); (try simp at t0f3); (try simp at t0z4); (try simp at t0c4); (try simp at t0f4)
        go_simp
        refine hK.out _ _ (by first | exact hHeld1.alloc _ | (repeat (first | (with_reducible exact hHeld2) | (with_reducible exact (Keeps.undrewR hHeld2)) | (refine Keeps.set ?_ (by simp <;> omega) (by simp <;> omega) _) | (with_reducible refine Keeps.drew ?_)))) (fun hHeld3 => ?_)
        clear hK K
        try clear hb
        try simp only [Act.put, List.setIfInBounds_toArray, List.set_cons_zero, List.set_cons_succ]
        refine wpAnyH_done (by kernel_rfl) ?_ _
        have hHeld := hHeld3
        obtain ⟨⟨kz0, kc0, kf0⟩, ⟨kz1, kc1, kf1⟩, ⟨kz2, kc2, kf2⟩, ⟨kz3, kc3, kf3⟩, ⟨kz4, kc4, kf4⟩, ⟨kz5, kc5, kf5⟩, ⟨kz6, kc6, kf6⟩, _⟩ := hHeld.2
        rotate_left 1
        refine AllReadyH.cons (o := ⟨some 16, _, _, _, _, _⟩) rfl (fun K hK => ?_) ?_
        go_simp
        refine hK.out _ _ (by first | exact hHeld0.alloc _ | exact (hHeld0.alloc _).drew) (fun hHeld4 => ?_)
        first | have hN4 := newK5 hHeld4 | have hN4 := newK5d hHeld4
        clear hK K
        try clear hb
        try simp only [Act.put, List.setIfInBounds_toArray, List.set_cons_zero, List.set_cons_succ]
        refine wpAnyH_ready (rs := [6]) (by kernel_rfl) (by simp) ?_
        refine AllReadyH.cons (o := ⟨some 67, _, _, _, _, _⟩) rfl (fun K hK => ?_) AllReadyH.nil
        go_simp
        ((with_reducible refine (WO.out _).mono ?_); rintro e w6 ⟨rfl, hb⟩)
        refine hK.out _ _ (hHeld4.next hb) (fun hHeld5 => ?_)
        replace hN4 := hN4.next hb
        clear hK K
        try clear hb
        try simp only [Act.put, List.setIfInBounds_toArray, List.set_cons_zero, List.set_cons_succ]
        refine wpAnyH_take (i := 7) (oi := ⟨some 68, _, _, _, _, _⟩) (v := ?_) rfl (by kernel_rfl) (by kernel_rfl) (by kernel_rfl) (fun _ _ _ h => h) (Or.inl ⟨by rfl, ?_⟩) (by assumption) ?_
        rotate_left
        · intro wq hSw; go_simp; (try with_reducible rfl)
        try simp only [Act.put, List.setIfInBounds_toArray, List.set_cons_zero, List.set_cons_succ]
        refine wpAnyH_ready (rs := [9]) (by kernel_rfl) (by simp) ?_
        refine AllReadyH.cons (o := ⟨none, _, _, _, _, _⟩) rfl (fun K hK => ?_) AllReadyH.nil
        have hz0 := hHeld0.1.size; obtain ⟨⟨az0, ac0, af0⟩, ⟨az1, ac1, af1⟩, ⟨az2, ac2, af2⟩, ⟨az3, ac3, af3⟩, ⟨az4, ac4, af4⟩, ⟨az5, ac5, af5⟩, ⟨az6, ac6, af6⟩, _⟩ := hHeld0.2; (try simp at hz0); (try simp at az0); (try simp at az1); (try simp at az2); (try simp at az3); (try simp at az4); (try simp at az5); (try simp at az6)
        obtain ⟨⟨t0z0, t0c0, t0f0⟩, ⟨t0z1, t0c1, t0f1⟩, ⟨t0z2, t0c2, t0f2⟩, ⟨t0z3, t0c3, t0f3⟩, ⟨t0z4, t0c4, t0f4⟩, _⟩ := hN4.2; (try simp at t0z0); (try simp at t0c0); (try simp at t0f0); (try simp at t0z1); (try simp at t0c1); (try simp at t0f1); (try simp at t0z2); (try simp at t0c2); (try simp at t0f2); (try simp at t0z3); (try simp at t0c3); (try simp at t0f3); (try simp at t0z4); (try simp at t0c4); (try simp at t0f4)
        go_simp
        refine hK.out _ _ (by first | exact hHeld0.alloc _ | (repeat (first | (with_reducible exact hHeld5) | (with_reducible exact (Keeps.undrewR hHeld5)) | (refine Keeps.set ?_ (by simp <;> omega) (by simp <;> omega) _) | (with_reducible refine Keeps.drew ?_)))) (fun hHeld6 => ?_)
        clear hK K
        try clear hb
        try simp only [Act.put, List.setIfInBounds_toArray, List.set_cons_zero, List.set_cons_succ]
        refine wpAnyH_done (by kernel_rfl) ?_ _
        have hHeld := hHeld6
        obtain ⟨⟨kz0, kc0, kf0⟩, ⟨kz1, kc1, kf1⟩, ⟨kz2, kc2, kf2⟩, ⟨kz3, kc3, kf3⟩, ⟨kz4, kc4, kf4⟩, ⟨kz5, kc5, kf5⟩, ⟨kz6, kc6, kf6⟩, _⟩ := hHeld.2
        rotate_left 1
        exact AllReadyH.nil
        all_goals
          go_wp2_with fail
          go_meet
          case rel =>
            refine ⟨_, rfl, ?_, hHeld.1, ?_⟩
            · first | exact hHeld1.2.2.2.1.1 | exact hHeld0.2.2.2.1.1
            · simp [Cells, go_sem, *]
              try (first | exact hHeld2.2.2.2.1.1 | exact hHeld3.2.2.2.1.1 | exact hHeld4.2.2.2.1.1 | exact hHeld5.2.2.2.1.1 | exact hHeld6.2.2.2.1.1 | exact hHeld7.2.2.2.1.1)
      case rest =>
        clear hL WO
        obtain ⟨g, rfl, hg, hH⟩ := hcut
        obtain ⟨⟨kz0, kc0, kf0⟩, ⟨kz1, kc1, kf1⟩, ⟨kz2, kc2, kf2⟩, ⟨kz3, kc3, kf3⟩, ⟨kz4, kc4, kf4⟩, ⟨kz5, kc5, kf5⟩, ⟨kz6, kc6, kf6⟩, ⟨kz7, kc7, kf7⟩, ⟨kz8, kc8, kf8⟩, ⟨kz9, kc9, kf9⟩, _⟩ := hH.2
        have hO : Keeps wa [(wa.heap.size, 0, .int .i64 c), (wa.heap.size, 1, .int .i64 lo), (wa.heap.size, 2, .int .i64 hi), (wa.heap.size, 3, .int .i64 z0), (wa.heap.size, 4, .int .u64 z1)] wc := hH.sub (by simp)
        rcases HF.out with ⟨hpi, ⟨rfl, hFk⟩ | ⟨rfl, hFk⟩⟩
        · have R1 : Hid (PartIs (F (k + 1)) 1 y y q0 q1 ∧ SomeIs true (F (k + 1))) := Lib.hid (by rw [E.out, hFk]; exact ⟨P1.out, .inr ⟨rfl, by simp⟩⟩)
          have hP := Lib.hid (kput5 hO (Nat.le_refl _) (.int .i64 1) (.int .i64 y) (.int .i64 y) (.int .i64 q0) (.int .u64 q1))
          clear hO hH HF hpi hFk
          go_wp2_with fail
          go_roundw
          case rel => exact ⟨k + 1, 1, y, y, q0, q1, true, rfl, by simp, hlt, R1, hP.out⟩
          case measure => exact tl.out
        · have TG := Lib.hid (fun W => together_is hpi P1.out hFk (by simp) (FB.out k).1 (by simp) (FB.out k).2 (by intro v hv; rw [List.mem_singleton.1 hv]; exact PV'.out) W)
          clear hO HF hpi
          go_wp2_with fail
          refine (TG.out _).mono ?_
          rintro e w7 ⟨c9, lo9, hi9, x9, y9, rfl, hq, hb⟩
          have R1 : Hid (PartIs (F (k + 1)) c9 lo9 hi9 x9 y9 ∧ SomeIs true (F (k + 1))) := Lib.hid (by rw [E.out]; exact ⟨hq, .inr ⟨rfl, by simp⟩⟩)
          replace hH := hH.next hb
          clear hb hq TG
          (try clear hHeld0); (try clear hHeld1); (try clear hHeld2); (try clear hHeld3); (try clear hHeld4); (try clear hHeld5); (try clear hHeld6); (try clear hHeld7); (try clear hHeld8); (try clear hHeld9); (try clear hHeld10); (try clear hHeld11); (try clear hHeld12); (try clear hHeld13); (try clear hT0); (try clear kz0 kc0 kf0); (try clear kz1 kc1 kf1); (try clear kz2 kc2 kf2); (try clear kz3 kc3 kf3); (try clear kz4 kc4 kf4); (try clear kz5 kc5 kf5); (try clear kz6 kc6 kf6); (try clear kz7 kc7 kf7); (try clear kz8 kc8 kf8); (try clear kz9 kc9 kf9); (try clear kz10 kc10 kf10); (try clear kz11 kc11 kf11); (try clear kz12 kc12 kf12); (try clear kz13 kc13 kf13); (try clear t0z0 t0c0 t0f0); (try clear t0z1 t0c1 t0f1)
          have hM : Keeps wa [(w7.heap.size, 0, .int .i64 c9), (w7.heap.size, 1, .int .i64 lo9), (w7.heap.size, 2, .int .i64 hi9), (w7.heap.size, 3, .int .i64 x9), (w7.heap.size, 4, .int .u64 y9), (wa.heap.size, 0, .int .i64 c), (wa.heap.size, 1, .int .i64 lo), (wa.heap.size, 2, .int .i64 hi), (wa.heap.size, 3, .int .i64 z0), (wa.heap.size, 4, .int .u64 z1)] (w7.alloc (.cells #[.int .i64 c9, .int .i64 lo9, .int .i64 hi9, .int .i64 x9, .int .u64 y9] 59)) := Keeps.app (l := [(w7.heap.size, 0, .int .i64 c9), (w7.heap.size, 1, .int .i64 lo9), (w7.heap.size, 2, .int .i64 hi9), (w7.heap.size, 3, .int .i64 x9), (w7.heap.size, 4, .int .u64 y9)]) ⟨(hH.alloc _).1, by simp [Cells, go_sem]⟩ ((hH.alloc _).sub (by simp))
          have hgz7 : wa.heap.size < w7.heap.size := by obtain ⟨_, ⟨h1, _, _⟩, _⟩ := hH; omega
          clear hH
          go_upto_region 17 with (fail)
          generalize w7.alloc (.cells #[.int .i64 c9, .int .i64 lo9, .int .i64 hi9, .int .i64 x9, .int .u64 y9] 59) = w8 at *
          generalize w7.heap.size = g9 at *
          have hO : Keeps wa [(wa.heap.size, 0, .int .i64 c), (wa.heap.size, 1, .int .i64 lo), (wa.heap.size, 2, .int .i64 hi), (wa.heap.size, 3, .int .i64 z0), (wa.heap.size, 4, .int .u64 z1)] w8 := hM.sub (by simp)
          have hP := Lib.hid (kput5 hO (Nat.le_refl _) (.int .i64 c9) (.int .i64 lo9) (.int .i64 hi9) (.int .i64 x9) (.int .u64 y9))
          obtain ⟨⟨kz0, kc0, kf0⟩, ⟨kz1, kc1, kf1⟩, ⟨kz2, kc2, kf2⟩, ⟨kz3, kc3, kf3⟩, ⟨kz4, kc4, kf4⟩, ⟨kz5, kc5, kf5⟩, ⟨kz6, kc6, kf6⟩, ⟨kz7, kc7, kf7⟩, ⟨kz8, kc8, kf8⟩, ⟨kz9, kc9, kf9⟩, _⟩ := hM.2
          clear hO hM
          go_wp2_with fail
          go_roundw
          case rel => exact ⟨k + 1, c9, lo9, hi9, x9, y9, true, rfl, by simp, hlt, R1, hP.out⟩
          case measure => exact tl.out
    · have j1 : ¬ (k : Int) < (N : Int) := by omega
      have e : k = N := by omega
      subst e
      have hG2 := HG.out.next hH.1
      have hB := hG2.1
      obtain ⟨⟨kz0, kc0, kf0⟩, ⟨kz1, kc1, kf1⟩, ⟨kz2, kc2, kf2⟩, ⟨kz3, kc3, kf3⟩, ⟨kz4, kc4, kf4⟩, _⟩ := hG2.2
      obtain ⟨⟨qz0, qc0, qf0⟩, ⟨qz1, qc1, qf1⟩, ⟨qz2, qc2, qf2⟩, ⟨qz3, qc3, qf3⟩, ⟨qz4, qc4, qf4⟩, _⟩ := hH.2
      obtain ⟨⟨m1, hcode⟩, m2, hbo⟩ := And.intro HP.out HF.out
      have e5 : p0 = c ∧ p1 = lo ∧ p2 = hi ∧ p3 = z0 ∧ p4 = z1 := by
        obtain ⟨rfl, rfl, rfl, rfl, rfl⟩ := m1
        obtain ⟨rfl, rfl, rfl, rfl, rfl⟩ := m2
        exact ⟨rfl, rfl, rfl, rfl, rfl⟩
      obtain ⟨rfl, rfl, rfl, rfl, rfl⟩ := e5
      clear hG2 hH HG HF HP m1 m2
      rcases hbo with ⟨rfl, hF⟩ | ⟨rfl, hF⟩
      · rcases hcode with ⟨_, rfl⟩ | ⟨h9, _⟩
        · clear hF
          go_wp2_with fail
          go_ret
          exact ⟨rfl, hB⟩
        · exact absurd hF h9
      · rcases hcode with ⟨h9, _⟩ | ⟨_, rfl⟩
        · exact absurd h9 hF
        · clear hF
          go_wp2_with fail
          go_ret
          exact ⟨rfl, hB⟩
theorem folds_any (x : Sg) (hR : x.R.length ≤ 9223372036854775807) (hV : x.V.length ≤ 9223372036854775807) (a b : Int) (v0 u0 : Value) (w : World) (h : ReadsR w v0 x.R) (hu : Reads .i64 w u0 x.V) :
    Calls Tryz.prog 8 #[sgOf x v0 u0, .int .i64 a, .int .i64 b] w (Ret w (.bool true)) := by
  have WK := Lib.hid (fun W => wakes_any W)
  have OW := Lib.hid (fun W (hb : Below w.heap.size w W) => own_any x hR hV v0 u0 W (h.below hb) (hu.below hb))
  have h1 : (takeS x).R.length ≤ 1000000 := by unfold takeS; simp only; rw [List.length_take]; omega
  have h2 : (takeS x).V.length ≤ 1000000 := by unfold takeS; simp only; rw [List.length_take]; omega
  generalize takeS x = s at *
  have CP := callP s h1 h2 a b
  have PX := fun v u W (hr : ReadsR W v s.R) (hu : Reads .i64 W u s.V) => points_any s h1 h2 v u W hr hu
  unfold PtsEnd at PX
  cases g : segB s
  · rw [g] at PX
    have e : partC s a b = 210 := by unfold partC; rw [g]; rfl
    rw [e] at CP
    exact folds_bad x v0 u0 s a b w WK OW _ _ _ _ _ (Lib.hid (fun v u W hr hu => (PX v u W hr hu).mono (fun e w' h => by simpa [Ret] using h))) (Lib.hid CP)
  · rw [g] at PX
    have hT := times_ok ((segB_iff s).1 g).1
    have hvl := vals_length g
    have hpl : (ptsS s).length = (timesR s.R).length := ptsF_length 0 _ _ hvl
    have hall := seen_all s g a b
    have hpb : ∀ p ∈ ptsS s, backB p.v = true := fun p hp => ((segB_iff s).1 g).2.2.2.2 _ (ptsF_mem 0 _ _ p hp).1
    have ec : partC s a b = if valsIn s a b = [] then 9 else 0 := by unfold partC; rw [g]; rfl
    have ep : partsOf s a b = valsIn s a b := by unfold partsOf; rw [g]; rfl
    refine folds_good x v0 u0 s a b w WK OW (ptsS s) (ptsS s).length (by have := hT.few; omega) (Lib.hid rfl) (seenF a b (ptsS s)) (Lib.hid rfl) (Lib.hid fun k p hp => seen_next hp) (Lib.hid fun k => ⟨?_, fun v hv => ?_⟩) (Lib.hid hpb)
      _ _ _ _ _ _ (Lib.hid ⟨?_, ?_⟩) (Lib.hid (fun v u W hr hu => by simpa using PX v u W hr hu)) (Lib.hid CP)
    · unfold seenF
      rw [List.length_map]
      have h3 := List.length_filter_le (fun p : Pn => inP a b (p.t, p.v)) ((ptsS s).take k)
      rw [List.length_take] at h3
      have := hT.few
      omega
    · unfold seenF at hv
      obtain ⟨p, hp, rfl⟩ := List.mem_map.1 hv
      exact hpb p (List.mem_of_mem_take (List.mem_filter.1 hp).1)
    · rw [hall, ep]; exact part_is _
    · rw [hall, ec]
      by_cases n : valsIn s a b = []
      · exact .inl ⟨n, by rw [if_pos n]⟩
      · exact .inr ⟨n, by rw [if_neg n]⟩
end Go.Proofs.YtgmflnfdmcphnaaGreat.P11
