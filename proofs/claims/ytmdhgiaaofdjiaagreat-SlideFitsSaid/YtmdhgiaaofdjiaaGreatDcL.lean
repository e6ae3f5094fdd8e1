/-
  The document's own answers for layer 10: which slope is less; what a band lets. Conditions: those written at each fact.
-/
import Derived.Maps.RangeWalk
import Derived.Test.YtmdhgiaaofdjiaaGreatDcT
import Derived.Test.YtmdhgiaaofdjiaaGreatKitS
namespace Go.Proofs.YtmdhgiaaofdjiaaGreat.P10
open Go.RowKit Go.Shelf Go.Proofs.YtmdhgiaaofdjiaaGreat.P8

set_option maxRecDepth 100000 in
set_option maxHeartbeats 2000000 in
theorem refSlopeLess_any (n d m e : Int) (h1 : slopeB n d = true) (h2 : slopeB m e = true) (w : World) : Calls Tryz.prog 63 #[slV n d, slV m e] w (Ret w (.bool (lq n d m e))) := by
  have b1 := (slopeB_iff _ _).1 h1
  have b2 := (slopeB_iff _ _).1 h2
  have hn : I64 n := by unfold I64; omega
  have hm : I64 m := by unfold I64; omega
  have hd : 1 ≤ d ∧ d ≤ 9223372036854775807 := by omega
  have he : 1 ≤ e ∧ e ≤ 9223372036854775807 := by omega
  have P1 := Lib.hid (fun W => prod_any n e hn he W)
  have P2 := Lib.hid (fun W => prod_any m d hm hd W)
  have WL := words_lt (pos_fits hn he) (pos_fits hm hd)
  rw [show decide (n * e < m * d) = lq n d m e from rfl] at WL
  replace WL := Lib.hid WL
  generalize lq n d m e = R at *
  generalize rhi (n * e) = x0 at *
  generalize rlo (n * e) = x1 at *
  generalize rhi (m * d) = y0 at *
  generalize rlo (m * d) = y1 at *
  clear h1 h2 b1 b2 hn hm hd he
  go_enter Tryz.func63, Tryz.ntmps63
  have hH0 : Hid (Keeps w [(w.heap.size, 0, .int .i64 n), (w.heap.size, 1, .int .i64 d), (w.heap.size + 1, 0, .int .i64 m), (w.heap.size + 1, 1, .int .i64 e)] ((w.alloc (.cells #[.int .i64 n, .int .i64 d] 45)).alloc (.cells #[.int .i64 m, .int .i64 e] 45))) :=
    Lib.hid ⟨((Below.refl _ w).alloc (Nat.le_refl _) _).alloc (by simp) _, by simp [Cells, go_sem]⟩
  go_wp2_with fail
  refine (P1.out _).mono ?_
  rintro en w1 ⟨rfl, hb1⟩
  have HK1 := Lib.hid (hH0.out.next hb1)
  clear hH0 hb1 P1
  obtain ⟨⟨kz0, kc0, kf0⟩, ⟨kz1, kc1, kf1⟩, ⟨kz2, kc2, kf2⟩, ⟨kz3, kc3, kf3⟩, _⟩ := HK1.out.2
  go_wp2_with fail
  refine (P2.out _).mono ?_
  rintro en w2 ⟨rfl, hb2⟩
  have HK2 := Lib.hid (HK1.out.next hb2)
  clear hb2 P2 HK1 kz0 kc0 kf0 kz1 kc1 kf1 kz2 kc2 kf2 kz3 kc3 kf3
  by_cases g1 : x0 < y0
  · have E : Hid (R = true) := Lib.hid (by have := WL.out; rw [decide_eq_true g1] at this; rw [← this]; rfl)
    clear WL
    go_wp2_with fail
    go_ret
    exact ⟨by rw [E.out]; rfl, HK2.out.1⟩
  · by_cases g2 : x0 = y0
    · have i1 : (x0 == y0) = true := beq_iff_eq.2 g2
      by_cases g3 : x1 < y1
      · have E : Hid (R = true) := Lib.hid (by have := WL.out; rw [decide_eq_false g1, i1, decide_eq_true g3] at this; rw [← this]; rfl)
        clear WL
        go_wp2_with fail
        go_ret
        exact ⟨by rw [E.out]; first | rfl | simp [g3], HK2.out.1⟩
      · have E : Hid (R = false) := Lib.hid (by have := WL.out; rw [decide_eq_false g1, i1, decide_eq_false g3] at this; rw [← this]; rfl)
        clear WL
        have DD := Lib.hid (decide_eq_false g3)
        go_wp2_with fail
        go_ret
        exact ⟨by rw [E.out]; first | rfl | simp [g3] | (simp; omega), HK2.out.1⟩
    · have i1 : (x0 == y0) = false := beq_eq_false_iff_ne.2 g2
      have E : Hid (R = false) := Lib.hid (by have := WL.out; rw [decide_eq_false g1, i1] at this; rw [← this]; rfl)
      clear WL
      go_wp2_with fail
      go_ret
      exact ⟨by rw [E.out]; first | rfl | simp [g1] | (simp; omega), HK2.out.1⟩
theorem ne_up2 (n : Nat) : ¬ n = n + 1 + 1 := by omega
theorem ne_dn2 (n : Nat) : ¬ n + 1 + 1 = n := by omega
theorem ne_up3 (n : Nat) : ¬ n = n + 1 + 1 + 1 := by omega
theorem ne_dn3 (n : Nat) : ¬ n + 1 + 1 + 1 = n := by omega
theorem diff_fits {x y : Int} (hx : -2305844108725321728 ≤ x ∧ x ≤ 2305844108725321728) (hy : -2305844108725321728 ≤ y ∧ y ≤ 2305844108725321728) : wrap64 (x - y) = x - y ∧ IntKind.i64.wrap (x - y) = x - y :=
  ⟨i64_keeps (by omega) (by omega), by rw [IntKind.wrap_i64]; omega⟩
theorem let_next {b x : Bd} {l : List Bd} {k : Nat} {s : Sl} (hx : l[k]? = some x) : letS b (l.take (k + 1)) s = joinS (letS b (l.take k) s) (pairS x b) := by
  rw [List.take_add_one, hx]
  simp only [Option.toList_some]
  rw [let_app]
  rfl
set_option maxRecDepth 100000 in
set_option maxHeartbeats 8000000 in
theorem refLet_any (b : Bd) (hb : BdOk b) (s : Sl) (hs : StOk s) (l : List Bd) (hl : l.length ≤ 1000000) (hR : ∀ x ∈ l, BdOk x ∧ x.t < b.t) (v : Value) (w : World) (h : ReadsD w v l) :
    Calls Tryz.prog 62 #[v, bandV b, slV s.a s.b, slV s.c s.d] w (Ret w (.tuple #[slV (letS b l s).a (letS b l s).b, slV (letS b l s).c (letS b l s).d])) := by
  obtain ⟨A, c, rfl, _, hk⟩ := h
  have HK := Lib.hid hk
  have HRR := Lib.hid hR
  have HS := Lib.hid hs
  have HB0 := Lib.hid hb
  obtain ⟨F, hF⟩ : ∃ F, F = letS b l s := ⟨_, rfl⟩
  rw [← hF]
  have HF := Lib.hid hF
  have A0 : Hid (s = letS b (l.take 0) s) := Lib.hid (by simp [letS])
  have HS0 := HS
  clear hk hR hs hF
  obtain ⟨bt, blo, bhi⟩ := b
  obtain ⟨sa, sb, sc, sd⟩ := s
  have hbo := hb
  simp only [BdOk] at hbo
  clear hb
  go_enter Tryz.func62, Tryz.ntmps62
  have hH0 : Hid (Keeps w [(w.heap.size, 0, .int .i64 bt), (w.heap.size, 1, .int .i64 blo), (w.heap.size, 2, .int .i64 bhi), (w.heap.size + 1, 0, .int .i64 sa), (w.heap.size + 1, 1, .int .i64 sb), (w.heap.size + 1 + 1, 0, .int .i64 sc), (w.heap.size + 1 + 1, 1, .int .i64 sd), (w.heap.size + 1 + 1 + 1, 0, .int .i64 0), (w.heap.size + 1 + 1 + 1, 1, .int .i64 0), (w.heap.size + 1 + 1 + 1 + 1, 0, .int .i64 0), (w.heap.size + 1 + 1 + 1 + 1, 1, .int .i64 0)]
      (((((w.alloc (.cells #[.int .i64 bt, .int .i64 blo, .int .i64 bhi] 50)).alloc (.cells #[.int .i64 sa, .int .i64 sb] 45)).alloc (.cells #[.int .i64 sc, .int .i64 sd] 45)).alloc (.cells #[.int .i64 0, .int .i64 0] 45)).alloc (.cells #[.int .i64 0, .int .i64 0] 45))) :=
    Lib.hid ⟨((((((Below.refl _ w).alloc (Nat.le_refl _) _).alloc (by simp) _).alloc (by simp; omega) _).alloc (by simp; omega) _).alloc (by simp; omega) _), by simp [Cells, go_sem]⟩
  go_wp2_with fail
  go_loopw [16] (fun i wr => ∃ (k : Nat) (x : Sl), i = .int .i64 k ∧ k ≤ l.length ∧ Hid (x = letS ⟨bt, blo, bhi⟩ (l.take k) ⟨sa, sb, sc, sd⟩ ∧ StOk x) ∧ Hid (Keeps w [(w.heap.size, 0, .int .i64 bt), (w.heap.size, 1, .int .i64 blo), (w.heap.size, 2, .int .i64 bhi), (w.heap.size + 1, 0, .int .i64 x.a), (w.heap.size + 1, 1, .int .i64 x.b), (w.heap.size + 1 + 1, 0, .int .i64 x.c), (w.heap.size + 1 + 1, 1, .int .i64 x.d), (w.heap.size + 1 + 1 + 1, 0, .int .i64 0), (w.heap.size + 1 + 1 + 1, 1, .int .i64 0), (w.heap.size + 1 + 1 + 1 + 1, 0, .int .i64 0), (w.heap.size + 1 + 1 + 1 + 1, 1, .int .i64 0)] wr)) (fun i _ => l.length - (intOf i).toNat)
  case atStart => exact ⟨0, ⟨sa, sb, sc, sd⟩, rfl, Nat.zero_le _, Lib.hid ⟨A0.out, HS0.out⟩, hH0⟩
  case round =>
    obtain ⟨k, x, rfl, hkl, hX, hB⟩ := hrel
    clear hH0 A0
    by_cases gk : k < l.length
    · obtain ⟨⟨t, lo, hi⟩, hx⟩ : ∃ s, l[k]? = some s := ⟨_, List.getElem?_eq_getElem gk⟩
      obtain ⟨bb, off, rfl, hbw, hc1, hc2, hc3⟩ := HK.out k _ hx
      have c1 := (hB.out.1.cell (p := ⟨bb, off + k * 3, none⟩) hbw).trans hc1
      have c2 := (hB.out.1.cell (p := ⟨bb, off + k * 3 + 1, none⟩) hbw).trans hc2
      have c3 := (hB.out.1.cell (p := ⟨bb, off + k * 3 + 2, none⟩) hbw).trans hc3
      simp only at c1 c2 c3
      have i1 : (k : Int) < (l.length : Int) := by omega
      have i0 : (0 : Int) ≤ (k : Int) := by omega
      obtain ⟨⟨q1, q2, q3, q4, q5⟩, q6⟩ := HRR.out _ (List.mem_of_getElem? hx)
      simp only at q1 q2 q3 q4 q5 q6
      have hpk := pair_ok (x := ⟨t, lo, hi⟩) (y := ⟨bt, blo, bhi⟩) ⟨q1, q2, q3, q4, q5⟩ HB0.out q6
      have HJ := Lib.hid (And.intro (show joinS x (pairS ⟨t, lo, hi⟩ ⟨bt, blo, bhi⟩) = letS ⟨bt, blo, bhi⟩ (l.take (k + 1)) ⟨sa, sb, sc, sd⟩ by rw [let_next hx, ← hX.out.1]) (join_ok hX.out.2 hpk))
      have L1 := Lib.hid (fun W => refSlopeLess_any x.a x.b (blo - hi) (bt - t) hX.out.2.lo hpk.lo W)
      have L2 := Lib.hid (fun W => refSlopeLess_any (bhi - lo) (bt - t) x.c x.d hpk.hi hX.out.2.hi W)
      have JE : Hid (joinS x (pairS ⟨t, lo, hi⟩ ⟨bt, blo, bhi⟩) = ⟨if lq x.a x.b (blo - hi) (bt - t) then blo - hi else x.a, if lq x.a x.b (blo - hi) (bt - t) then bt - t else x.b, if lq (bhi - lo) (bt - t) x.c x.d then bhi - lo else x.c, if lq (bhi - lo) (bt - t) x.c x.d then bt - t else x.d⟩) := Lib.hid rfl
      obtain ⟨e1, e2⟩ := diff_fits (x := blo) (y := hi) (by omega) (by omega)
      obtain ⟨e3, e4⟩ := diff_fits (x := bhi) (y := lo) (by omega) (by omega)
      obtain ⟨e5, e6⟩ := diff_fits (x := bt) (y := t) (by omega) (by omega)
      generalize joinS x (pairS ⟨t, lo, hi⟩ ⟨bt, blo, bhi⟩) = z at *
      generalize lq x.a x.b (blo - hi) (bt - t) = g1 at *
      generalize lq (bhi - lo) (bt - t) x.c x.d = g2 at *
      obtain ⟨xa, xb, xc, xd⟩ := x
      have hHeld := hB.out
      have hz5 : w.heap.size + 5 ≤ wr.heap.size := hB.out.2.2.2.2.2.2.2.2.2.2.2.1.1
      obtain ⟨⟨kz0, kc0, kf0⟩, ⟨kz1, kc1, kf1⟩, ⟨kz2, kc2, kf2⟩, ⟨kz3, kc3, kf3⟩, ⟨kz4, kc4, kf4⟩, ⟨kz5, kc5, kf5⟩, ⟨kz6, kc6, kf6⟩, _⟩ := hHeld.2
      have h9 := ((hHeld.alloc (.cells #[.int .i64 t, .int .i64 lo, .int .i64 hi] 50)).alloc (.cells #[.int .i64 (blo - hi), .int .i64 (bt - t)] 45)).alloc (.cells #[.int .i64 (bhi - lo), .int .i64 (bt - t)] 45)
      have HK9 := Lib.hid (Keeps.app (l := [(wr.heap.size + 1, 0, .int .i64 (blo - hi)), (wr.heap.size + 1, 1, .int .i64 (bt - t)), (wr.heap.size + 1 + 1, 0, .int .i64 (bhi - lo)), (wr.heap.size + 1 + 1, 1, .int .i64 (bt - t))]) ⟨h9.1, by simp [Cells, go_sem]⟩ h9)
      clear hc1 hc2 hc3 hx hB hX hpk q1 q2 q3 q4 q5 q6 hHeld h9
      go_upto_region 6 with (fail)
      have hHs : Keeps w [(wr.heap.size + 1, 0, .int .i64 (blo - hi)), (wr.heap.size + 1, 1, .int .i64 (bt - t)), (wr.heap.size + 1 + 1, 0, .int .i64 (bhi - lo)), (wr.heap.size + 1 + 1, 1, .int .i64 (bt - t)), (w.heap.size, 0, .int .i64 bt), (w.heap.size, 1, .int .i64 blo), (w.heap.size, 2, .int .i64 bhi), (w.heap.size + 1, 0, .int .i64 xa), (w.heap.size + 1, 1, .int .i64 xb), (w.heap.size + 1 + 1, 0, .int .i64 xc), (w.heap.size + 1 + 1, 1, .int .i64 xd), (w.heap.size + 1 + 1 + 1, 0, .int .i64 0), (w.heap.size + 1 + 1 + 1, 1, .int .i64 0), (w.heap.size + 1 + 1 + 1 + 1, 0, .int .i64 0), (w.heap.size + 1 + 1 + 1 + 1, 1, .int .i64 0)] (((wr.alloc (.cells #[.int .i64 t, .int .i64 lo, .int .i64 hi] 50)).alloc (.cells #[.int .i64 (blo - hi), .int .i64 (bt - t)] 45)).alloc (.cells #[.int .i64 (bhi - lo), .int .i64 (bt - t)] 45)) := HK9.out
      generalize ((wr.alloc (.cells #[.int .i64 t, .int .i64 lo, .int .i64 hi] 50)).alloc (.cells #[.int .i64 (blo - hi), .int .i64 (bt - t)] 45)).alloc (.cells #[.int .i64 (bhi - lo), .int .i64 (bt - t)] 45) = wi at hHs ⊢
      obtain ⟨gl, hgl⟩ : ∃ g, g = wr.heap.size + 1 := ⟨_, rfl⟩
      obtain ⟨gh, hgh⟩ : ∃ g, g = wr.heap.size + 1 + 1 := ⟨_, rfl⟩
      rw [← hgh, ← hgl] at hHs
      rw [← hgh, ← hgl]
      have ngl1 : ¬ gl = w.heap.size + 1 := by omega
      have ngl2 : ¬ gl = w.heap.size + 1 + 1 := by omega
      have ngh1 : ¬ gh = w.heap.size + 1 := by omega
      have ngh2 : ¬ gh = w.heap.size + 1 + 1 := by omega
      clear hgl hgh
      generalize wr.heap.size = gw at *
      clear HK9 kz0 kc0 kf0 kz1 kc1 kf1 kz2 kc2 kf2 kz3 kc3 kf3 kz4 kc4 kf4 kz5 kc5 kf5 kz6 kc6 kf6 c1 c2 c3 e1 e2 e3 e4 e5 e6 hz5
      have HKi := Lib.hid hHs
      clear hHs
      obtain ⟨⟨kz0, kc0, kf0⟩, ⟨kz1, kc1, kf1⟩, ⟨kz2, kc2, kf2⟩, ⟨kz3, kc3, kf3⟩, ⟨kz4, kc4, kf4⟩, ⟨kz5, kc5, kf5⟩, ⟨kz6, kc6, kf6⟩, ⟨kz7, kc7, kf7⟩, ⟨kz8, kc8, kf8⟩, ⟨kz9, kc9, kf9⟩, ⟨kz10, kc10, kf10⟩, ⟨kz11, kc11, kf11⟩, ⟨kz12, kc12, kf12⟩, ⟨kz13, kc13, kf13⟩, ⟨kz14, kc14, kf14⟩, _⟩ := HKi.out.2
      go_wp2_with fail
      refine (L1.out _).mono ?_
      rintro en w5 ⟨rfl, hb5⟩
      have HK5 := Lib.hid (HKi.out.next hb5)
      clear L1 hb5 HKi
      clear kz0 kc0 kf0 kz1 kc1 kf1 kz2 kc2 kf2 kz3 kc3 kf3 kz4 kc4 kf4 kz5 kc5 kf5 kz6 kc6 kf6 kz7 kc7 kf7 kz8 kc8 kf8 kz9 kc9 kf9 kz10 kc10 kf10 kz11 kc11 kf11 kz12 kc12 kf12 kz13 kc13 kf13 kz14 kc14 kf14
      obtain ⟨⟨kz0, kc0, kf0⟩, ⟨kz1, kc1, kf1⟩, ⟨kz2, kc2, kf2⟩, ⟨kz3, kc3, kf3⟩, ⟨kz4, kc4, kf4⟩, ⟨kz5, kc5, kf5⟩, ⟨kz6, kc6, kf6⟩, ⟨kz7, kc7, kf7⟩, ⟨kz8, kc8, kf8⟩, ⟨kz9, kc9, kf9⟩, ⟨kz10, kc10, kf10⟩, ⟨kz11, kc11, kf11⟩, ⟨kz12, kc12, kf12⟩, ⟨kz13, kc13, kf13⟩, ⟨kz14, kc14, kf14⟩, _⟩ := HK5.out.2
      cases g1
      · have HK6 := HK5
        clear HK5
        go_wp2_with fail
        refine (L2.out _).mono ?_
        rintro en w7 ⟨rfl, hb7⟩
        have HK7 := Lib.hid (HK6.out.next hb7)
        clear L2 hb7 HK6
        clear kz0 kc0 kf0 kz1 kc1 kf1 kz2 kc2 kf2 kz3 kc3 kf3 kz4 kc4 kf4 kz5 kc5 kf5 kz6 kc6 kf6 kz7 kc7 kf7 kz8 kc8 kf8 kz9 kc9 kf9 kz10 kc10 kf10 kz11 kc11 kf11 kz12 kc12 kf12 kz13 kc13 kf13 kz14 kc14 kf14
        obtain ⟨⟨kz0, kc0, kf0⟩, ⟨kz1, kc1, kf1⟩, ⟨kz2, kc2, kf2⟩, ⟨kz3, kc3, kf3⟩, ⟨kz4, kc4, kf4⟩, ⟨kz5, kc5, kf5⟩, ⟨kz6, kc6, kf6⟩, ⟨kz7, kc7, kf7⟩, ⟨kz8, kc8, kf8⟩, ⟨kz9, kc9, kf9⟩, ⟨kz10, kc10, kf10⟩, ⟨kz11, kc11, kf11⟩, ⟨kz12, kc12, kf12⟩, ⟨kz13, kc13, kf13⟩, ⟨kz14, kc14, kf14⟩, _⟩ := HK7.out.2
        cases g2
        · have HK8 := HK7
          clear HK7
          have HZ : Hid (z = ⟨xa, xb, xc, xd⟩) := Lib.hid (by rw [JE.out]; simp)
          have HL : Hid (Keeps w [(w.heap.size, 0, .int .i64 bt), (w.heap.size, 1, .int .i64 blo), (w.heap.size, 2, .int .i64 bhi), (w.heap.size + 1, 0, .int .i64 xa), (w.heap.size + 1, 1, .int .i64 xb), (w.heap.size + 1 + 1, 0, .int .i64 xc), (w.heap.size + 1 + 1, 1, .int .i64 xd), (w.heap.size + 1 + 1 + 1, 0, .int .i64 0), (w.heap.size + 1 + 1 + 1, 1, .int .i64 0), (w.heap.size + 1 + 1 + 1 + 1, 0, .int .i64 0), (w.heap.size + 1 + 1 + 1 + 1, 1, .int .i64 0)] _) := Lib.hid ⟨HK8.out.1, HK8.out.2.2.2.2.2⟩
          clear HK8 JE
          go_wp2_with fail
          go_roundw
          case rel => exact ⟨k + 1, ⟨xa, xb, xc, xd⟩, by simp, gk, Lib.hid (by rw [← HZ.out]; exact HJ.out), HL⟩
          case measure => exact index_less gk
        · have HK8 := Lib.hid (show Keeps w [(gl, 0, .int .i64 (blo - hi)), (gl, 1, .int .i64 (bt - t)), (gh, 0, .int .i64 (bhi - lo)), (gh, 1, .int .i64 (bt - t)), (w.heap.size, 0, .int .i64 bt), (w.heap.size, 1, .int .i64 blo), (w.heap.size, 2, .int .i64 bhi), (w.heap.size + 1, 0, .int .i64 xa), (w.heap.size + 1, 1, .int .i64 xb), (w.heap.size + 1 + 1, 0, .int .i64 (bhi - lo)), (w.heap.size + 1 + 1, 1, .int .i64 (bt - t)), (w.heap.size + 1 + 1 + 1, 0, .int .i64 0), (w.heap.size + 1 + 1 + 1, 1, .int .i64 0), (w.heap.size + 1 + 1 + 1 + 1, 0, .int .i64 0), (w.heap.size + 1 + 1 + 1 + 1, 1, .int .i64 0)] ((w7.setCell ⟨w.heap.size + 1 + 1, 0, none⟩ (.int .i64 (bhi - lo))).setCell ⟨w.heap.size + 1 + 1, 1, none⟩ (.int .i64 (bt - t))) by have := Keeps.upd2 HK7.out kc9 kc10 (by decide) (Nat.le_trans (Nat.le_succ _) (Nat.le_succ _)) (.int .i64 (bhi - lo)) (.int .i64 (bt - t)); simpa [updL, ngl2, ngh2, ne_up2, ne_dn2, ne_up3, ne_dn3] using this)
          clear HK7
          have HZ : Hid (z = ⟨xa, xb, (bhi - lo), (bt - t)⟩) := Lib.hid (by rw [JE.out]; simp)
          have HL : Hid (Keeps w [(w.heap.size, 0, .int .i64 bt), (w.heap.size, 1, .int .i64 blo), (w.heap.size, 2, .int .i64 bhi), (w.heap.size + 1, 0, .int .i64 xa), (w.heap.size + 1, 1, .int .i64 xb), (w.heap.size + 1 + 1, 0, .int .i64 (bhi - lo)), (w.heap.size + 1 + 1, 1, .int .i64 (bt - t)), (w.heap.size + 1 + 1 + 1, 0, .int .i64 0), (w.heap.size + 1 + 1 + 1, 1, .int .i64 0), (w.heap.size + 1 + 1 + 1 + 1, 0, .int .i64 0), (w.heap.size + 1 + 1 + 1 + 1, 1, .int .i64 0)] _) := Lib.hid ⟨HK8.out.1, HK8.out.2.2.2.2.2⟩
          clear HK8 JE
          go_wp2_with fail
          go_roundw
          case rel => exact ⟨k + 1, ⟨xa, xb, (bhi - lo), (bt - t)⟩, by simp, gk, Lib.hid (by rw [← HZ.out]; exact HJ.out), HL⟩
          case measure => exact index_less gk
      · have HK6 := Lib.hid (show Keeps w [(gl, 0, .int .i64 (blo - hi)), (gl, 1, .int .i64 (bt - t)), (gh, 0, .int .i64 (bhi - lo)), (gh, 1, .int .i64 (bt - t)), (w.heap.size, 0, .int .i64 bt), (w.heap.size, 1, .int .i64 blo), (w.heap.size, 2, .int .i64 bhi), (w.heap.size + 1, 0, .int .i64 (blo - hi)), (w.heap.size + 1, 1, .int .i64 (bt - t)), (w.heap.size + 1 + 1, 0, .int .i64 xc), (w.heap.size + 1 + 1, 1, .int .i64 xd), (w.heap.size + 1 + 1 + 1, 0, .int .i64 0), (w.heap.size + 1 + 1 + 1, 1, .int .i64 0), (w.heap.size + 1 + 1 + 1 + 1, 0, .int .i64 0), (w.heap.size + 1 + 1 + 1 + 1, 1, .int .i64 0)] ((w5.setCell ⟨w.heap.size + 1, 0, none⟩ (.int .i64 (blo - hi))).setCell ⟨w.heap.size + 1, 1, none⟩ (.int .i64 (bt - t))) by have := Keeps.upd2 HK5.out kc7 kc8 (by decide) (Nat.le_succ _) (.int .i64 (blo - hi)) (.int .i64 (bt - t)); simpa [updL, ngl1, ngh1, ne_up2, ne_dn2, ne_up3, ne_dn3] using this)
        clear HK5
        go_wp2_with fail
        refine (L2.out _).mono ?_
        rintro en w7 ⟨rfl, hb7⟩
        have HK7 := Lib.hid (HK6.out.next hb7)
        clear L2 hb7 HK6
        clear kz0 kc0 kf0 kz1 kc1 kf1 kz2 kc2 kf2 kz3 kc3 kf3 kz4 kc4 kf4 kz5 kc5 kf5 kz6 kc6 kf6 kz7 kc7 kf7 kz8 kc8 kf8 kz9 kc9 kf9 kz10 kc10 kf10 kz11 kc11 kf11 kz12 kc12 kf12 kz13 kc13 kf13 kz14 kc14 kf14
        obtain ⟨⟨kz0, kc0, kf0⟩, ⟨kz1, kc1, kf1⟩, ⟨kz2, kc2, kf2⟩, ⟨kz3, kc3, kf3⟩, ⟨kz4, kc4, kf4⟩, ⟨kz5, kc5, kf5⟩, ⟨kz6, kc6, kf6⟩, ⟨kz7, kc7, kf7⟩, ⟨kz8, kc8, kf8⟩, ⟨kz9, kc9, kf9⟩, ⟨kz10, kc10, kf10⟩, ⟨kz11, kc11, kf11⟩, ⟨kz12, kc12, kf12⟩, ⟨kz13, kc13, kf13⟩, ⟨kz14, kc14, kf14⟩, _⟩ := HK7.out.2
        cases g2
        · have HK8 := HK7
          clear HK7
          have HZ : Hid (z = ⟨(blo - hi), (bt - t), xc, xd⟩) := Lib.hid (by rw [JE.out]; simp)
          have HL : Hid (Keeps w [(w.heap.size, 0, .int .i64 bt), (w.heap.size, 1, .int .i64 blo), (w.heap.size, 2, .int .i64 bhi), (w.heap.size + 1, 0, .int .i64 (blo - hi)), (w.heap.size + 1, 1, .int .i64 (bt - t)), (w.heap.size + 1 + 1, 0, .int .i64 xc), (w.heap.size + 1 + 1, 1, .int .i64 xd), (w.heap.size + 1 + 1 + 1, 0, .int .i64 0), (w.heap.size + 1 + 1 + 1, 1, .int .i64 0), (w.heap.size + 1 + 1 + 1 + 1, 0, .int .i64 0), (w.heap.size + 1 + 1 + 1 + 1, 1, .int .i64 0)] _) := Lib.hid ⟨HK8.out.1, HK8.out.2.2.2.2.2⟩
          clear HK8 JE
          go_wp2_with fail
          go_roundw
          case rel => exact ⟨k + 1, ⟨(blo - hi), (bt - t), xc, xd⟩, by simp, gk, Lib.hid (by rw [← HZ.out]; exact HJ.out), HL⟩
          case measure => exact index_less gk
        · have HK8 := Lib.hid (show Keeps w [(gl, 0, .int .i64 (blo - hi)), (gl, 1, .int .i64 (bt - t)), (gh, 0, .int .i64 (bhi - lo)), (gh, 1, .int .i64 (bt - t)), (w.heap.size, 0, .int .i64 bt), (w.heap.size, 1, .int .i64 blo), (w.heap.size, 2, .int .i64 bhi), (w.heap.size + 1, 0, .int .i64 (blo - hi)), (w.heap.size + 1, 1, .int .i64 (bt - t)), (w.heap.size + 1 + 1, 0, .int .i64 (bhi - lo)), (w.heap.size + 1 + 1, 1, .int .i64 (bt - t)), (w.heap.size + 1 + 1 + 1, 0, .int .i64 0), (w.heap.size + 1 + 1 + 1, 1, .int .i64 0), (w.heap.size + 1 + 1 + 1 + 1, 0, .int .i64 0), (w.heap.size + 1 + 1 + 1 + 1, 1, .int .i64 0)] ((w7.setCell ⟨w.heap.size + 1 + 1, 0, none⟩ (.int .i64 (bhi - lo))).setCell ⟨w.heap.size + 1 + 1, 1, none⟩ (.int .i64 (bt - t))) by have := Keeps.upd2 HK7.out kc9 kc10 (by decide) (Nat.le_trans (Nat.le_succ _) (Nat.le_succ _)) (.int .i64 (bhi - lo)) (.int .i64 (bt - t)); simpa [updL, ngl2, ngh2, ne_up2, ne_dn2, ne_up3, ne_dn3] using this)
          clear HK7
          have HZ : Hid (z = ⟨(blo - hi), (bt - t), (bhi - lo), (bt - t)⟩) := Lib.hid (by rw [JE.out]; simp)
          have HL : Hid (Keeps w [(w.heap.size, 0, .int .i64 bt), (w.heap.size, 1, .int .i64 blo), (w.heap.size, 2, .int .i64 bhi), (w.heap.size + 1, 0, .int .i64 (blo - hi)), (w.heap.size + 1, 1, .int .i64 (bt - t)), (w.heap.size + 1 + 1, 0, .int .i64 (bhi - lo)), (w.heap.size + 1 + 1, 1, .int .i64 (bt - t)), (w.heap.size + 1 + 1 + 1, 0, .int .i64 0), (w.heap.size + 1 + 1 + 1, 1, .int .i64 0), (w.heap.size + 1 + 1 + 1 + 1, 0, .int .i64 0), (w.heap.size + 1 + 1 + 1 + 1, 1, .int .i64 0)] _) := Lib.hid ⟨HK8.out.1, HK8.out.2.2.2.2.2⟩
          clear HK8 JE
          go_wp2_with fail
          go_roundw
          case rel => exact ⟨k + 1, ⟨(blo - hi), (bt - t), (bhi - lo), (bt - t)⟩, by simp, gk, Lib.hid (by rw [← HZ.out]; exact HJ.out), HL⟩
          case measure => exact index_less gk
    · have hkk : k = l.length := by omega
      have i1 : ¬ (k : Int) < (l.length : Int) := by omega
      have E := hX.out.1
      rw [hkk, List.take_length] at E
      have E2 : Hid (F = x) := Lib.hid (by rw [HF.out, E])
      obtain ⟨xa, xb, xc, xd⟩ := x
      simp only at hB
      clear hX E hkk
      go_upto_region 11 with (fail)
      obtain ⟨hbw2, b0, b1, b2, l0, l1, l2, l3, r0, r1, r2, r3, _⟩ := hB.out
      refine region_keepsB (w0 := w) (L := [(w.heap.size + 1, 0, .int .i64 xa), (w.heap.size + 1, 1, .int .i64 xb), (w.heap.size + 1 + 1, 0, .int .i64 xc), (w.heap.size + 1 + 1, 1, .int .i64 xd)]) (M := [(w.heap.size + 1 + 1 + 1, 0, .int .i64 0), (w.heap.size + 1 + 1 + 1, 1, .int .i64 0), (w.heap.size + 1 + 1 + 1 + 1, 0, .int .i64 0), (w.heap.size + 1 + 1 + 1 + 1, 1, .int .i64 0)]) (by kernel_rfl) ⟨hbw2, l0, l1, l2, l3, trivial⟩ ⟨hbw2, r0, r1, r2, r3, trivial⟩ (fun hHeld0 hT0 => ?_)
      refine wpAnyH_take (i := 0) (oi := ⟨some 51, _, _, _, _, _⟩) (v := ?_) rfl (by kernel_rfl) (by kernel_rfl) (by kernel_rfl) (fun _ _ _ h => h) (Or.inl ⟨by rfl, ?_⟩) (by assumption) ?_
      rotate_left
      · intro wq hSw; obtain ⟨⟨qz0, qc0, qf0⟩, ⟨qz1, qc1, qf1⟩, ⟨qz2, qc2, qf2⟩, ⟨qz3, qc3, qf3⟩, _⟩ := hSw.2; go_simp; (try with_reducible rfl)
      try go_frame
      refine wpAnyH_take (i := 1) (oi := ⟨some 52, _, _, _, _, _⟩) (v := ?_) rfl (by kernel_rfl) (by kernel_rfl) (by kernel_rfl) (fun _ _ _ h => h) (Or.inl ⟨by rfl, ?_⟩) (by assumption) ?_
      rotate_left
      · intro wq hSw; obtain ⟨⟨qz0, qc0, qf0⟩, ⟨qz1, qc1, qf1⟩, ⟨qz2, qc2, qf2⟩, ⟨qz3, qc3, qf3⟩, _⟩ := hSw.2; go_simp; (try with_reducible rfl)
      try go_frame
      refine wpAnyH_ready (rs := [2]) (by kernel_rfl) (by simp) ?_
      refine AllReadyH.cons (o := ⟨none, _, _, _, _, _⟩) rfl (fun K hK => ?_) AllReadyH.nil
      obtain ⟨⟨t0z0, t0c0, t0f0⟩, ⟨t0z1, t0c1, t0f1⟩, ⟨t0z2, t0c2, t0f2⟩, ⟨t0z3, t0c3, t0f3⟩, _⟩ := hT0.2; (try simp at t0z0); (try simp at t0c0); (try simp at t0f0); (try simp at t0z1); (try simp at t0c1); (try simp at t0f1); (try simp at t0z2); (try simp at t0c2); (try simp at t0f2); (try simp at t0z3); (try simp at t0c3); (try simp at t0f3)
      go_simp
      refine hK.out _ _ (by first | exact hHeld0.alloc _ | (repeat (first | (with_reducible exact hHeld0) | (with_reducible exact (Keeps.undrewR hHeld0)) | (refine Keeps.set ?_ (by simp <;> omega) (by simp <;> omega) _) | (with_reducible refine Keeps.drew ?_)))) (fun hHeld1 => ?_)
      clear hK K
      try clear hb
      try go_frame
      refine wpAnyH_ready (rs := [3]) (by kernel_rfl) (by simp) ?_
      refine AllReadyH.cons (o := ⟨none, _, _, _, _, _⟩) rfl (fun K hK => ?_) AllReadyH.nil
      go_simp
      refine hK.out _ _ (by first | exact hHeld1.alloc _ | (repeat (first | (with_reducible exact hHeld1) | (with_reducible exact (Keeps.undrewR hHeld1)) | (refine Keeps.set ?_ (by simp <;> omega) (by simp <;> omega) _) | (with_reducible refine Keeps.drew ?_)))) (fun hHeld2 => ?_)
      clear hK K
      try clear hb
      try go_frame
      refine wpAnyH_done (by kernel_rfl) ?_ _
      have hHeld := hHeld2
      obtain ⟨⟨kz0, kc0, kf0⟩, ⟨kz1, kc1, kf1⟩, ⟨kz2, kc2, kf2⟩, ⟨kz3, kc3, kf3⟩, _⟩ := hHeld.2
      all_goals
        go_wp2_with fail
        refine bodyPost_ret (v := .tuple #[slV xa xb, slV xc xd]) (by simp [results, Tryz.results62, go_sem, *]) rfl ⟨by rw [E2.out], hHeld.1⟩
end Go.Proofs.YtmdhgiaaofdjiaaGreat.P10
