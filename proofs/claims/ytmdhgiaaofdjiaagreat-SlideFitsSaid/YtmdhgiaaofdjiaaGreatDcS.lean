/-
  The document's own answers for layer 10: the slopes that bands let. Conditions: those written at each fact.
-/
import Derived.Maps.RangeWalk
import Derived.Test.YtmdhgiaaofdjiaaGreatDcL
import Derived.Test.YtmdhgiaaofdjiaaGreatSlM
import Derived.Test.YtmdhgiaaofdjiaaGreatLdA
namespace Go.Proofs.YtmdhgiaaofdjiaaGreat.P10
open Go.RowKit Go.Shelf Go.Proofs.YtmdhgiaaofdjiaaGreat.P8

theorem ahead2_of {l : List Bd} (hR : RowOk l) {k : Nat} {b : Bd} (hx : l[k]? = some b) : BdOk b ∧ ∀ x ∈ l.take k, BdOk x ∧ x.t < b.t := by
  have e : l = l.take k ++ b :: l.drop (k + 1) := by rw [← drop_of hx, List.take_append_drop]
  exact row_ahead (h := l.take k) (l := l.drop (k + 1)) (by rw [← e]; exact hR)
theorem keep_of {w W : World} {L M : List (Nat × Nat × Value)} (h : Keeps w M W) (k : Cells L W) : Keeps w L W := ⟨h.1, k⟩
/-- What the document's Slopes tells. -/
def sloR (l : List Bd) : Sl := if shutS (allS l) then ⟨0, 0, 0, 0⟩ else lowS (allS l)
set_option maxRecDepth 100000 in
set_option maxHeartbeats 8000000 in
theorem refSlopes_any (l : List Bd) (hl : l.length ≤ 1000) (hR : RowOk l) (v : Value) (w : World) (h : ReadsD w v l) : Calls Tryz.prog 29 #[v] w (Ret w (.tuple #[slV (sloR l).a (sloR l).b, slV (sloR l).c (sloR l).d, .bool (!shutS (allS l))])) := by
  have hr := h
  obtain ⟨A, c, rfl, hc, hk⟩ := h
  have HK := Lib.hid hk
  have HRR := Lib.hid hR
  have LT := Lib.hid (fun (b : Bd) (hb : BdOk b) (s : Sl) (hs : StOk s) (k : Nat) (hk : k ≤ l.length) (hA : ∀ x ∈ l.take k, BdOk x ∧ x.t < b.t) W (hW : Below w.heap.size w W) => refLet_any b hb s hs (l.take k) (by rw [List.length_take]; omega) hA (.slice A k c) W ((hr.below hW).front k hk))
  obtain ⟨N, hN⟩ : ∃ N, N = allS l := ⟨_, rfl⟩
  have HN := Lib.hid hN
  have HNO := Lib.hid (all_ok hR)
  rw [← hN] at HNO
  have ES : sloR l = if shutS N then ⟨0, 0, 0, 0⟩ else lowS N := by rw [hN]; rfl
  rw [← hN]
  obtain ⟨F, hF⟩ : ∃ F, F = sloR l := ⟨_, rfl⟩
  obtain ⟨P, hP⟩ : ∃ P, P = !shutS N := ⟨_, rfl⟩
  rw [← hF, ← hP]
  have HF := Lib.hid (And.intro (hF.trans ES) hP)
  clear hr hR hk hN ES hF hP
  go_enter Tryz.func29, Tryz.ntmps29
  have hH0 : Hid (Keeps w [(w.heap.size, 0, .int .i64 0), (w.heap.size, 1, .int .i64 0), (w.heap.size + 1, 0, .int .i64 0), (w.heap.size + 1, 1, .int .i64 0), (w.heap.size + 1 + 1, 0, .int .i64 (-4611688217450643456)), (w.heap.size + 1 + 1, 1, .int .i64 1), (w.heap.size + 1 + 1 + 1, 0, .int .i64 4611688217450643456), (w.heap.size + 1 + 1 + 1, 1, .int .i64 1)]
      ((((w.alloc (.cells #[.int .i64 0, .int .i64 0] 45)).alloc (.cells #[.int .i64 0, .int .i64 0] 45)).alloc (.cells #[.int .i64 (-4611688217450643456), .int .i64 1] 45)).alloc (.cells #[.int .i64 4611688217450643456, .int .i64 1] 45))) :=
    Lib.hid ⟨(((((Below.refl _ w).alloc (Nat.le_refl _) _).alloc (by simp) _).alloc (by simp; omega) _).alloc (by simp; omega) _), by simp [Cells, go_sem]⟩
  go_wp2_with fail
  go_loopw [13] (fun i wr => ∃ (k : Nat) (x : Sl), i = .int .i64 k ∧ k ≤ l.length ∧ Hid (x = allS (l.take k) ∧ StOk x) ∧ Hid (Keeps w [(w.heap.size, 0, .int .i64 0), (w.heap.size, 1, .int .i64 0), (w.heap.size + 1, 0, .int .i64 0), (w.heap.size + 1, 1, .int .i64 0), (w.heap.size + 1 + 1, 0, .int .i64 x.a), (w.heap.size + 1 + 1, 1, .int .i64 x.b), (w.heap.size + 1 + 1 + 1, 0, .int .i64 x.c), (w.heap.size + 1 + 1 + 1, 1, .int .i64 x.d)] wr)) (fun i _ => l.length - (intOf i).toNat)
  case atStart => exact ⟨0, every0, rfl, Nat.zero_le _, Lib.hid ⟨rfl, every_ok⟩, hH0⟩
  case round =>
    obtain ⟨k, x, rfl, hkl, hX, hB⟩ := hrel
    clear hH0
    by_cases gk : k < l.length
    · obtain ⟨⟨t, lo, hi⟩, hx⟩ : ∃ s, l[k]? = some s := ⟨_, List.getElem?_eq_getElem gk⟩
      obtain ⟨bb, off, rfl, hbw, hc1, hc2, hc3⟩ := HK.out k _ hx
      have c1 := (hB.out.1.cell (p := ⟨bb, off + k * 3, none⟩) hbw).trans hc1
      have c2 := (hB.out.1.cell (p := ⟨bb, off + k * 3 + 1, none⟩) hbw).trans hc2
      have c3 := (hB.out.1.cell (p := ⟨bb, off + k * 3 + 2, none⟩) hbw).trans hc3
      simp only at c1 c2 c3
      have i1 : (k : Int) < (l.length : Int) := by omega
      have i0 : (0 : Int) ≤ (k : Int) := by omega
      have i2 : (k : Int) ≤ (c : Int) := by omega
      obtain ⟨hbo, hah⟩ := ahead2_of HRR.out hx
      have LC := Lib.hid (fun W hW => LT.out ⟨t, lo, hi⟩ hbo x hX.out.2 k (by omega) hah W hW)
      have hz : StOk (letS ⟨t, lo, hi⟩ (l.take k) x) := let_ok hbo hah hX.out.2
      have eA : letS ⟨t, lo, hi⟩ (l.take k) x = allS (l.take (k + 1)) := by rw [all_take hx, ← hX.out.1]
      obtain ⟨z, hzz⟩ : ∃ z, z = letS ⟨t, lo, hi⟩ (l.take k) x := ⟨_, rfl⟩
      rw [← hzz] at LC hz eA
      have HZ := Lib.hid (And.intro eA hz)
      obtain ⟨x0, x1, x2, x3⟩ := x
      obtain ⟨z0, z1, z2, z3⟩ := z
      simp only at hB LC
      have hz5 : w.heap.size + 4 ≤ wr.heap.size := hB.out.2.2.2.2.2.2.2.2.1.1
      have h9 := hB.out.alloc (.cells #[.int .i64 t, .int .i64 lo, .int .i64 hi] 50)
      have HK9 := Lib.hid ((newK3 h9).app h9)
      clear hx hc1 hc2 hc3 hbo hah hX hzz hz eA hB h9
      go_upto_region 5 with (fail)
      have hHs : Keeps w [(wr.heap.size, 0, .int .i64 t), (wr.heap.size, 1, .int .i64 lo), (wr.heap.size, 2, .int .i64 hi), (w.heap.size, 0, .int .i64 0), (w.heap.size, 1, .int .i64 0), (w.heap.size + 1, 0, .int .i64 0), (w.heap.size + 1, 1, .int .i64 0), (w.heap.size + 1 + 1, 0, .int .i64 x0), (w.heap.size + 1 + 1, 1, .int .i64 x1), (w.heap.size + 1 + 1 + 1, 0, .int .i64 x2), (w.heap.size + 1 + 1 + 1, 1, .int .i64 x3)] (wr.alloc (.cells #[.int .i64 t, .int .i64 lo, .int .i64 hi] 50)) := HK9.out
      generalize wr.alloc (.cells #[.int .i64 t, .int .i64 lo, .int .i64 hi] 50) = wi at hHs ⊢
      generalize wr.heap.size = gb at *
      clear HK9 c1 c2 c3
      obtain ⟨hwi, a0, a1, a2, b0, b1, b2, b3, d0, d1, d2, d3, _⟩ := hHs
      have hP := Lib.hid (show Keeps w [(gb, 0, .int .i64 t), (gb, 1, .int .i64 lo), (gb, 2, .int .i64 hi), (w.heap.size, 0, .int .i64 0), (w.heap.size, 1, .int .i64 0), (w.heap.size + 1, 0, .int .i64 0), (w.heap.size + 1, 1, .int .i64 0)] wi from ⟨hwi, a0, a1, a2, b0, b1, b2, b3, trivial⟩)
      have hl2 : w.heap.size ≤ w.heap.size + 1 + 1 := by omega
      have hl3 : w.heap.size ≤ w.heap.size + 1 + 1 + 1 := by omega
      have hN2 : ∀ q ∈ [(gb, (0 : Nat), Value.int .i64 t), (gb, 1, .int .i64 lo), (gb, 2, .int .i64 hi), (w.heap.size, 0, .int .i64 0), (w.heap.size, 1, .int .i64 0), (w.heap.size + 1, 0, .int .i64 0), (w.heap.size + 1, 1, .int .i64 0)], q.1 ≠ w.heap.size + 1 + 1 := by
        intro q hq
        simp only [List.mem_cons, List.not_mem_nil, or_false] at hq
        rcases hq with rfl | rfl | rfl | rfl | rfl | rfl | rfl <;> (show _ ≠ w.heap.size + 1 + 1; omega)
      have hN3 : ∀ q ∈ [(gb, (0 : Nat), Value.int .i64 t), (gb, 1, .int .i64 lo), (gb, 2, .int .i64 hi), (w.heap.size, 0, .int .i64 0), (w.heap.size, 1, .int .i64 0), (w.heap.size + 1, 0, .int .i64 0), (w.heap.size + 1, 1, .int .i64 0)], q.1 ≠ w.heap.size + 1 + 1 + 1 := by
        intro q hq
        simp only [List.mem_cons, List.not_mem_nil, or_false] at hq
        rcases hq with rfl | rfl | rfl | rfl | rfl | rfl | rfl <;> (show _ ≠ w.heap.size + 1 + 1 + 1; omega)
      refine region_keepsB (w0 := w) (L := [(gb, 0, .int .i64 t), (gb, 1, .int .i64 lo), (gb, 2, .int .i64 hi), (w.heap.size, 0, .int .i64 0), (w.heap.size, 1, .int .i64 0), (w.heap.size + 1, 0, .int .i64 0), (w.heap.size + 1, 1, .int .i64 0)]) (M := [(w.heap.size + 1 + 1, 0, .int .i64 x0), (w.heap.size + 1 + 1, 1, .int .i64 x1), (w.heap.size + 1 + 1 + 1, 0, .int .i64 x2), (w.heap.size + 1 + 1 + 1, 1, .int .i64 x3)]) (by kernel_rfl) hP.out ⟨hwi, d0, d1, d2, d3, trivial⟩ (fun hHeld0 hT0 => ?_)
      refine wpAnyH_take (i := 0) (oi := ⟨some 19, _, _, _, _, _⟩) (v := ?_) rfl (by kernel_rfl) (by kernel_rfl) (by kernel_rfl) (fun _ _ _ h => h) (Or.inl ⟨by rfl, ?_⟩) (by assumption) ?_
      rotate_left
      · intro wq hSw; go_simp; (try with_reducible rfl)
      try go_frame
      refine wpAnyH_take (i := 1) (oi := ⟨some 20, _, _, _, _, _⟩) (v := ?_) rfl (by kernel_rfl) (by kernel_rfl) (by kernel_rfl) (fun _ _ _ h => h) (Or.inl ⟨by rfl, ?_⟩) (by assumption) ?_
      rotate_left
      · intro wq hSw; go_simp; (try with_reducible rfl)
      try go_frame
      refine wpAnyH_take (i := 2) (oi := ⟨some 21, _, _, _, _, _⟩) (v := ?_) rfl (by kernel_rfl) (by kernel_rfl) (by kernel_rfl) (fun _ _ _ h => h) (Or.inl ⟨by rfl, ?_⟩) (by assumption) ?_
      rotate_left
      · intro wq hSw; go_simp; (try with_reducible rfl)
      try go_frame
      refine wpAnyH_take (i := 3) (oi := ⟨some 22, _, _, _, _, _⟩) (v := ?_) rfl (by kernel_rfl) (by kernel_rfl) (by kernel_rfl) (fun _ _ _ h => h) (Or.inl ⟨by rfl, ?_⟩) (by assumption) ?_
      rotate_left
      · intro wq hSw; obtain ⟨⟨qz0, qc0, qf0⟩, ⟨qz1, qc1, qf1⟩, ⟨qz2, qc2, qf2⟩, ⟨qz3, qc3, qf3⟩, ⟨qz4, qc4, qf4⟩, ⟨qz5, qc5, qf5⟩, ⟨qz6, qc6, qf6⟩, _⟩ := hSw.2; go_simp; (try with_reducible rfl)
      try go_frame
      refine wpAnyH_ready (rs := [4, 5]) (by kernel_rfl) (by simp) ?_
      refine AllReadyH.cons (o := ⟨some 23, _, _, _, _, _⟩) rfl (fun K hK => ?_) ?_
      obtain ⟨⟨kz0, kc0, kf0⟩, ⟨kz1, kc1, kf1⟩, ⟨kz2, kc2, kf2⟩, ⟨kz3, kc3, kf3⟩, ⟨kz4, kc4, kf4⟩, ⟨kz5, kc5, kf5⟩, ⟨kz6, kc6, kf6⟩, _⟩ := hHeld0.2
      obtain ⟨⟨t0z0, t0c0, t0f0⟩, ⟨t0z1, t0c1, t0f1⟩, ⟨t0z2, t0c2, t0f2⟩, ⟨t0z3, t0c3, t0f3⟩, _⟩ := hT0.2
      go_simp
      refine hK.out _ _ (by first | exact hHeld0 | (first | exact hHeld | (refine ⟨by go_grown, ?_⟩; simp [Cells, go_sem]; done))) (fun hHeld1 => ?_)
      clear hK K
      try clear hb
      try go_frame
      refine wpAnyH_ready (rs := [5]) (by kernel_rfl) (by simp) ?_
      refine AllReadyH.cons (o := ⟨some 24, _, _, _, _, _⟩) rfl (fun K hK => ?_) AllReadyH.nil
      obtain ⟨⟨kz0, kc0, kf0⟩, ⟨kz1, kc1, kf1⟩, ⟨kz2, kc2, kf2⟩, ⟨kz3, kc3, kf3⟩, ⟨kz4, kc4, kf4⟩, ⟨kz5, kc5, kf5⟩, ⟨kz6, kc6, kf6⟩, _⟩ := hHeld1.2
      obtain ⟨⟨t0z0, t0c0, t0f0⟩, ⟨t0z1, t0c1, t0f1⟩, ⟨t0z2, t0c2, t0f2⟩, ⟨t0z3, t0c3, t0f3⟩, _⟩ := hT0.2
      go_simp
      refine hK.out _ _ (by first | exact hHeld1 | (first | exact hHeld | (refine ⟨by go_grown, ?_⟩; simp [Cells, go_sem]; done))) (fun hHeld2 => ?_)
      clear hK K
      try clear hb
      try go_frame
      refine wpAnyH_ready (rs := [6]) (by kernel_rfl) (by simp) ?_
      refine AllReadyH.cons (o := ⟨some 25, _, _, _, _, _⟩) rfl (fun K hK => ?_) AllReadyH.nil
      go_simp
      ((with_reducible refine Calls.mono (LC.out _ (belK (L := [(gb, 0, .int .i64 t), (gb, 1, .int .i64 lo), (gb, 2, .int .i64 hi), (w.heap.size, 0, .int .i64 0), (w.heap.size, 1, .int .i64 0), (w.heap.size + 1, 0, .int .i64 0), (w.heap.size + 1, 1, .int .i64 0)]) (by assumption))) ?_); rintro e w7 ⟨rfl, hb⟩)
      refine hK.out _ _ (hHeld2.next hb) (fun hHeld3 => ?_)
      replace hT0 := hT0.next hb
      clear hK K
      try clear hb
      try go_frame
      refine wpAnyH_take (i := 7) (oi := ⟨some 18, _, _, _, _, _⟩) (v := ?_) rfl (by kernel_rfl) (by kernel_rfl) (by kernel_rfl) (fun _ _ _ h => h) (Or.inl ⟨by rfl, ?_⟩) (by assumption) ?_
      rotate_left
      · intro wq hSw; go_simp; (try with_reducible rfl)
      try go_frame
      refine wpAnyH_take (i := 8) (oi := ⟨some 26, _, _, _, _, _⟩) (v := ?_) rfl (by kernel_rfl) (by kernel_rfl) (by kernel_rfl) (fun _ _ _ h => h) (Or.inl ⟨by rfl, ?_⟩) (by assumption) ?_
      rotate_left
      · intro wq hSw; go_simp; (try with_reducible rfl)
      try go_frame
      refine wpAnyH_take (i := 9) (oi := ⟨some 27, _, _, _, _, _⟩) (v := ?_) rfl (by kernel_rfl) (by kernel_rfl) (by kernel_rfl) (fun _ _ _ h => h) (Or.inl ⟨by rfl, ?_⟩) (by assumption) ?_
      rotate_left
      · intro wq hSw; go_simp; (try with_reducible rfl)
      try go_frame
      refine wpAnyH_ready (rs := [10]) (by kernel_rfl) (by simp) ?_
      refine AllReadyH.cons (o := ⟨none, _, _, _, _, _⟩) rfl (fun K hK => ?_) AllReadyH.nil
      obtain ⟨⟨t0z0, t0c0, t0f0⟩, ⟨t0z1, t0c1, t0f1⟩, ⟨t0z2, t0c2, t0f2⟩, ⟨t0z3, t0c3, t0f3⟩, _⟩ := hT0.2; (try simp at t0z0); (try simp at t0c0); (try simp at t0f0); (try simp at t0z1); (try simp at t0c1); (try simp at t0f1); (try simp at t0z2); (try simp at t0c2); (try simp at t0f2); (try simp at t0z3); (try simp at t0c3); (try simp at t0f3)
      go_simp
      refine hK.out _ _ ((by first | exact ((hHeld3.set (p := ⟨w.heap.size + 1 + 1, 0, none⟩) hl2 hN2 _).set (p := ⟨w.heap.size + 1 + 1, 1, none⟩) hl2 hN2 _) | exact ((hHeld3.set (p := ⟨w.heap.size + 1 + 1 + 1, 0, none⟩) hl3 hN3 _).set (p := ⟨w.heap.size + 1 + 1 + 1, 1, none⟩) hl3 hN3 _) | exact ((hHeld3.set (p := ⟨w.heap.size + 1 + 1, 0, none⟩) hl2 hN2 _).set (p := ⟨w.heap.size + 1 + 1, 1, none⟩) hl2 hN2 _).drew | exact ((hHeld3.set (p := ⟨w.heap.size + 1 + 1 + 1, 0, none⟩) hl3 hN3 _).set (p := ⟨w.heap.size + 1 + 1 + 1, 1, none⟩) hl3 hN3 _).drew)) (fun hHeld4 => ?_)
      clear hK K
      try clear hb
      try go_frame
      refine wpAnyH_ready (rs := [11]) (by kernel_rfl) (by simp) ?_
      refine AllReadyH.cons (o := ⟨none, _, _, _, _, _⟩) rfl (fun K hK => ?_) AllReadyH.nil
      go_simp
      refine hK.out _ _ ((by first | exact ((hHeld4.set (p := ⟨w.heap.size + 1 + 1, 0, none⟩) hl2 hN2 _).set (p := ⟨w.heap.size + 1 + 1, 1, none⟩) hl2 hN2 _) | exact ((hHeld4.set (p := ⟨w.heap.size + 1 + 1 + 1, 0, none⟩) hl3 hN3 _).set (p := ⟨w.heap.size + 1 + 1 + 1, 1, none⟩) hl3 hN3 _) | exact ((hHeld4.set (p := ⟨w.heap.size + 1 + 1, 0, none⟩) hl2 hN2 _).set (p := ⟨w.heap.size + 1 + 1, 1, none⟩) hl2 hN2 _).drew | exact ((hHeld4.set (p := ⟨w.heap.size + 1 + 1 + 1, 0, none⟩) hl3 hN3 _).set (p := ⟨w.heap.size + 1 + 1 + 1, 1, none⟩) hl3 hN3 _).drew)) (fun hHeld5 => ?_)
      clear hK K
      try clear hb
      try go_frame
      refine wpAnyH_done (by kernel_rfl) ?_ _
      have hHeld := hHeld5
      obtain ⟨⟨kz0, kc0, kf0⟩, ⟨kz1, kc1, kf1⟩, ⟨kz2, kc2, kf2⟩, ⟨kz3, kc3, kf3⟩, ⟨kz4, kc4, kf4⟩, ⟨kz5, kc5, kf5⟩, ⟨kz6, kc6, kf6⟩, _⟩ := hHeld.2
      rotate_left 1
      refine AllReadyH.cons (o := ⟨some 24, _, _, _, _, _⟩) rfl (fun K hK => ?_) ?_
      obtain ⟨⟨kz0, kc0, kf0⟩, ⟨kz1, kc1, kf1⟩, ⟨kz2, kc2, kf2⟩, ⟨kz3, kc3, kf3⟩, ⟨kz4, kc4, kf4⟩, ⟨kz5, kc5, kf5⟩, ⟨kz6, kc6, kf6⟩, _⟩ := hHeld0.2
      obtain ⟨⟨t0z0, t0c0, t0f0⟩, ⟨t0z1, t0c1, t0f1⟩, ⟨t0z2, t0c2, t0f2⟩, ⟨t0z3, t0c3, t0f3⟩, _⟩ := hT0.2
      go_simp
      refine hK.out _ _ (by first | exact hHeld0 | (first | exact hHeld | (refine ⟨by go_grown, ?_⟩; simp [Cells, go_sem]; done))) (fun hHeld6 => ?_)
      clear hK K
      try clear hb
      try go_frame
      refine wpAnyH_ready (rs := [4]) (by kernel_rfl) (by simp) ?_
      refine AllReadyH.cons (o := ⟨some 23, _, _, _, _, _⟩) rfl (fun K hK => ?_) AllReadyH.nil
      obtain ⟨⟨kz0, kc0, kf0⟩, ⟨kz1, kc1, kf1⟩, ⟨kz2, kc2, kf2⟩, ⟨kz3, kc3, kf3⟩, ⟨kz4, kc4, kf4⟩, ⟨kz5, kc5, kf5⟩, ⟨kz6, kc6, kf6⟩, _⟩ := hHeld6.2
      obtain ⟨⟨t0z0, t0c0, t0f0⟩, ⟨t0z1, t0c1, t0f1⟩, ⟨t0z2, t0c2, t0f2⟩, ⟨t0z3, t0c3, t0f3⟩, _⟩ := hT0.2
      go_simp
      refine hK.out _ _ (by first | exact hHeld6 | (first | exact hHeld | (refine ⟨by go_grown, ?_⟩; simp [Cells, go_sem]; done))) (fun hHeld7 => ?_)
      clear hK K
      try clear hb
      try go_frame
      refine wpAnyH_ready (rs := [6]) (by kernel_rfl) (by simp) ?_
      refine AllReadyH.cons (o := ⟨some 25, _, _, _, _, _⟩) rfl (fun K hK => ?_) AllReadyH.nil
      go_simp
      ((with_reducible refine Calls.mono (LC.out _ (belK (L := [(gb, 0, .int .i64 t), (gb, 1, .int .i64 lo), (gb, 2, .int .i64 hi), (w.heap.size, 0, .int .i64 0), (w.heap.size, 1, .int .i64 0), (w.heap.size + 1, 0, .int .i64 0), (w.heap.size + 1, 1, .int .i64 0)]) (by assumption))) ?_); rintro e w7 ⟨rfl, hb⟩)
      refine hK.out _ _ (hHeld7.next hb) (fun hHeld8 => ?_)
      replace hT0 := hT0.next hb
      clear hK K
      try clear hb
      try go_frame
      refine wpAnyH_take (i := 7) (oi := ⟨some 18, _, _, _, _, _⟩) (v := ?_) rfl (by kernel_rfl) (by kernel_rfl) (by kernel_rfl) (fun _ _ _ h => h) (Or.inl ⟨by rfl, ?_⟩) (by assumption) ?_
      rotate_left
      · intro wq hSw; go_simp; (try with_reducible rfl)
      try go_frame
      refine wpAnyH_take (i := 8) (oi := ⟨some 26, _, _, _, _, _⟩) (v := ?_) rfl (by kernel_rfl) (by kernel_rfl) (by kernel_rfl) (fun _ _ _ h => h) (Or.inl ⟨by rfl, ?_⟩) (by assumption) ?_
      rotate_left
      · intro wq hSw; go_simp; (try with_reducible rfl)
      try go_frame
      refine wpAnyH_take (i := 9) (oi := ⟨some 27, _, _, _, _, _⟩) (v := ?_) rfl (by kernel_rfl) (by kernel_rfl) (by kernel_rfl) (fun _ _ _ h => h) (Or.inl ⟨by rfl, ?_⟩) (by assumption) ?_
      rotate_left
      · intro wq hSw; go_simp; (try with_reducible rfl)
      try go_frame
      refine wpAnyH_ready (rs := [10]) (by kernel_rfl) (by simp) ?_
      refine AllReadyH.cons (o := ⟨none, _, _, _, _, _⟩) rfl (fun K hK => ?_) AllReadyH.nil
      obtain ⟨⟨t0z0, t0c0, t0f0⟩, ⟨t0z1, t0c1, t0f1⟩, ⟨t0z2, t0c2, t0f2⟩, ⟨t0z3, t0c3, t0f3⟩, _⟩ := hT0.2; (try simp at t0z0); (try simp at t0c0); (try simp at t0f0); (try simp at t0z1); (try simp at t0c1); (try simp at t0f1); (try simp at t0z2); (try simp at t0c2); (try simp at t0f2); (try simp at t0z3); (try simp at t0c3); (try simp at t0f3)
      go_simp
      refine hK.out _ _ ((by first | exact ((hHeld8.set (p := ⟨w.heap.size + 1 + 1, 0, none⟩) hl2 hN2 _).set (p := ⟨w.heap.size + 1 + 1, 1, none⟩) hl2 hN2 _) | exact ((hHeld8.set (p := ⟨w.heap.size + 1 + 1 + 1, 0, none⟩) hl3 hN3 _).set (p := ⟨w.heap.size + 1 + 1 + 1, 1, none⟩) hl3 hN3 _) | exact ((hHeld8.set (p := ⟨w.heap.size + 1 + 1, 0, none⟩) hl2 hN2 _).set (p := ⟨w.heap.size + 1 + 1, 1, none⟩) hl2 hN2 _).drew | exact ((hHeld8.set (p := ⟨w.heap.size + 1 + 1 + 1, 0, none⟩) hl3 hN3 _).set (p := ⟨w.heap.size + 1 + 1 + 1, 1, none⟩) hl3 hN3 _).drew)) (fun hHeld9 => ?_)
      clear hK K
      try clear hb
      try go_frame
      refine wpAnyH_ready (rs := [11]) (by kernel_rfl) (by simp) ?_
      refine AllReadyH.cons (o := ⟨none, _, _, _, _, _⟩) rfl (fun K hK => ?_) AllReadyH.nil
      go_simp
      refine hK.out _ _ ((by first | exact ((hHeld9.set (p := ⟨w.heap.size + 1 + 1, 0, none⟩) hl2 hN2 _).set (p := ⟨w.heap.size + 1 + 1, 1, none⟩) hl2 hN2 _) | exact ((hHeld9.set (p := ⟨w.heap.size + 1 + 1 + 1, 0, none⟩) hl3 hN3 _).set (p := ⟨w.heap.size + 1 + 1 + 1, 1, none⟩) hl3 hN3 _) | exact ((hHeld9.set (p := ⟨w.heap.size + 1 + 1, 0, none⟩) hl2 hN2 _).set (p := ⟨w.heap.size + 1 + 1, 1, none⟩) hl2 hN2 _).drew | exact ((hHeld9.set (p := ⟨w.heap.size + 1 + 1 + 1, 0, none⟩) hl3 hN3 _).set (p := ⟨w.heap.size + 1 + 1 + 1, 1, none⟩) hl3 hN3 _).drew)) (fun hHeld10 => ?_)
      clear hK K
      try clear hb
      try go_frame
      refine wpAnyH_done (by kernel_rfl) ?_ _
      have hHeld := hHeld10
      obtain ⟨⟨kz0, kc0, kf0⟩, ⟨kz1, kc1, kf1⟩, ⟨kz2, kc2, kf2⟩, ⟨kz3, kc3, kf3⟩, ⟨kz4, kc4, kf4⟩, ⟨kz5, kc5, kf5⟩, ⟨kz6, kc6, kf6⟩, _⟩ := hHeld.2
      rotate_left 1
      exact AllReadyH.nil
      all_goals
        have HB5 := Lib.hid (keep_of (L := [(w.heap.size, 0, .int .i64 0), (w.heap.size, 1, .int .i64 0), (w.heap.size + 1, 0, .int .i64 0), (w.heap.size + 1, 1, .int .i64 0), (w.heap.size + 1 + 1, 0, .int .i64 z0), (w.heap.size + 1 + 1, 1, .int .i64 z1), (w.heap.size + 1 + 1 + 1, 0, .int .i64 z2), (w.heap.size + 1 + 1 + 1, 1, .int .i64 z3)]) hHeld (by
          refine ⟨hHeld.2.2.2.2.1, hHeld.2.2.2.2.2.1, hHeld.2.2.2.2.2.2.1, hHeld.2.2.2.2.2.2.2.1, ⟨?_, ?_, ?_⟩, ⟨?_, ?_, ?_⟩, ⟨?_, ?_, ?_⟩, ⟨?_, ?_, ?_⟩, trivial⟩
          all_goals first | (simp; omega) | (simp [go_sem, *]; done) | (simp [*]; done)))
        go_wp2_with fail
        go_roundw
        case rel => exact ⟨k + 1, ⟨z0, z1, z2, z3⟩, by simp, gk, HZ, HB5⟩
        case measure => exact index_less gk
    · have hkk : k = l.length := by omega
      have i1 : ¬ (k : Int) < (l.length : Int) := by omega
      have E : N = x := by rw [HN.out, hX.out.1, hkk, List.take_length]
      subst E
      have LL := Lib.hid (fun W => refSlopeLess_any N.c N.d N.a N.b HNO.out.hi HNO.out.lo W)
      have W1 := Lib.hid (fun W => Go.Proofs.YtmdhgiaaofdjiaaGreat.refLowest_any N.a N.b HNO.out.lo W)
      have W2 := Lib.hid (fun W => Go.Proofs.YtmdhgiaaofdjiaaGreat.refLowest_any N.c N.d HNO.out.hi W)
      have EQ : lq N.c N.d N.a N.b = shutS N := rfl
      rw [EQ] at LL
      clear hX hkk HN HNO EQ hkl gk
      cases gs : shutS N
      · rw [gs] at LL
        obtain ⟨f1, f2⟩ := HF.out
        rw [gs] at f1 f2
        have f3 : F = ⟨lowN N.a N.b, lowD N.a N.b, lowN N.c N.d, lowD N.c N.d⟩ := f1
        have f4 : P = true := f2
        subst f3 f4
        clear gs HF f1 f2
        simp only
        generalize lowN N.a N.b = y0 at *
        generalize lowD N.a N.b = y1 at *
        generalize lowN N.c N.d = y2 at *
        generalize lowD N.c N.d = y3 at *
        obtain ⟨n0, n1, n2, n3⟩ := N
        simp only at *
        obtain ⟨⟨kz0, kc0, kf0⟩, ⟨kz1, kc1, kf1⟩, ⟨kz2, kc2, kf2⟩, ⟨kz3, kc3, kf3⟩, ⟨kz4, kc4, kf4⟩, ⟨kz5, kc5, kf5⟩, ⟨kz6, kc6, kf6⟩, ⟨kz7, kc7, kf7⟩, _⟩ := hB.out.2
        go_wp2_with fail
        refine (LL.out _).mono ?_
        rintro en w8 ⟨rfl, hb8⟩
        have HB8 := Lib.hid (hB.out.next hb8)
        clear hb8 kz0 kc0 kf0 kz1 kc1 kf1 kz2 kc2 kf2 kz3 kc3 kf3 kz4 kc4 kf4 kz5 kc5 kf5 kz6 kc6 kf6 kz7 kc7 kf7 hB LL
        go_upto_region 9 with (fail)
        obtain ⟨hwi, a0, a1, a2, a3, d0, d1, d2, d3, _⟩ := HB8.out
        refine region_keepsB (w0 := w) (L := [(w.heap.size + 1 + 1, 0, .int .i64 n0), (w.heap.size + 1 + 1, 1, .int .i64 n1), (w.heap.size + 1 + 1 + 1, 0, .int .i64 n2), (w.heap.size + 1 + 1 + 1, 1, .int .i64 n3)]) (M := [(w.heap.size, 0, .int .i64 0), (w.heap.size, 1, .int .i64 0), (w.heap.size + 1, 0, .int .i64 0), (w.heap.size + 1, 1, .int .i64 0)]) (by kernel_rfl) ⟨hwi, d0, d1, d2, d3, trivial⟩ ⟨hwi, a0, a1, a2, a3, trivial⟩ (fun hHeld0 hT0 => ?_)
        refine wpAnyH_take (i := 0) (oi := ⟨some 34, _, _, _, _, _⟩) (v := ?_) rfl (by kernel_rfl) (by kernel_rfl) (by kernel_rfl) (fun _ _ _ h => h) (Or.inl ⟨by rfl, ?_⟩) (by assumption) ?_
        rotate_left
        · intro wq hSw; obtain ⟨⟨qz0, qc0, qf0⟩, ⟨qz1, qc1, qf1⟩, ⟨qz2, qc2, qf2⟩, ⟨qz3, qc3, qf3⟩, _⟩ := hSw.2; go_simp; (try with_reducible rfl)
        try go_frame
        refine wpAnyH_take (i := 2) (oi := ⟨some 36, _, _, _, _, _⟩) (v := ?_) rfl (by kernel_rfl) (by kernel_rfl) (by kernel_rfl) (fun _ _ _ h => h) (Or.inl ⟨by rfl, ?_⟩) (by assumption) ?_
        rotate_left
        · intro wq hSw; obtain ⟨⟨qz0, qc0, qf0⟩, ⟨qz1, qc1, qf1⟩, ⟨qz2, qc2, qf2⟩, ⟨qz3, qc3, qf3⟩, _⟩ := hSw.2; go_simp; (try with_reducible rfl)
        try go_frame
        refine wpAnyH_ready (rs := [1]) (by kernel_rfl) (by simp) ?_
        refine AllReadyH.cons (o := ⟨some 35, _, _, _, _, _⟩) rfl (fun K hK => ?_) AllReadyH.nil
        go_simp
        (first | ((with_reducible refine (W1.out _).mono ?_); rintro e w9 ⟨rfl, hb⟩) | ((with_reducible refine (W2.out _).mono ?_); rintro e w10 ⟨rfl, hb⟩))
        refine hK.out _ _ (hHeld0.next hb) (fun hHeld1 => ?_)
        replace hT0 := hT0.next hb
        clear hK K
        try clear hb
        try go_frame
        refine wpAnyH_ready (rs := [3]) (by kernel_rfl) (by simp) ?_
        refine AllReadyH.cons (o := ⟨some 37, _, _, _, _, _⟩) rfl (fun K hK => ?_) AllReadyH.nil
        go_simp
        (first | ((with_reducible refine (W1.out _).mono ?_); rintro e w9 ⟨rfl, hb⟩) | ((with_reducible refine (W2.out _).mono ?_); rintro e w10 ⟨rfl, hb⟩))
        refine hK.out _ _ (hHeld1.next hb) (fun hHeld2 => ?_)
        replace hT0 := hT0.next hb
        clear hK K
        try clear hb
        try go_frame
        refine wpAnyH_ready (rs := [4]) (by kernel_rfl) (by simp) ?_
        refine AllReadyH.cons (o := ⟨none, _, _, _, _, _⟩) rfl (fun K hK => ?_) AllReadyH.nil
        obtain ⟨⟨t0z0, t0c0, t0f0⟩, ⟨t0z1, t0c1, t0f1⟩, ⟨t0z2, t0c2, t0f2⟩, ⟨t0z3, t0c3, t0f3⟩, _⟩ := hT0.2; (try simp at t0z0); (try simp at t0c0); (try simp at t0f0); (try simp at t0z1); (try simp at t0c1); (try simp at t0f1); (try simp at t0z2); (try simp at t0c2); (try simp at t0f2); (try simp at t0z3); (try simp at t0c3); (try simp at t0f3)
        go_simp
        refine hK.out _ _ (by first | exact hHeld2.alloc _ | (repeat (first | (with_reducible exact hHeld2) | (with_reducible exact (Keeps.undrewR hHeld2)) | (refine Keeps.set ?_ (by simp <;> omega) (by simp <;> omega) _) | (with_reducible refine Keeps.drew ?_)))) (fun hHeld3 => ?_)
        clear hK K
        try clear hb
        try go_frame
        refine wpAnyH_ready (rs := [5]) (by kernel_rfl) (by simp) ?_
        refine AllReadyH.cons (o := ⟨none, _, _, _, _, _⟩) rfl (fun K hK => ?_) AllReadyH.nil
        go_simp
        refine hK.out _ _ (by first | exact hHeld3.alloc _ | (repeat (first | (with_reducible exact hHeld3) | (with_reducible exact (Keeps.undrewR hHeld3)) | (refine Keeps.set ?_ (by simp <;> omega) (by simp <;> omega) _) | (with_reducible refine Keeps.drew ?_)))) (fun hHeld4 => ?_)
        clear hK K
        try clear hb
        try go_frame
        refine wpAnyH_take (i := 6) (oi := ⟨some 4, _, _, _, _, _⟩) (v := ?_) rfl (by kernel_rfl) (by kernel_rfl) (by kernel_rfl) (fun _ _ _ h => h) (Or.inl ⟨by rfl, ?_⟩) (by assumption) ?_
        rotate_left
        · intro wq hSw; go_simp; (try with_reducible rfl)
        try go_frame
        refine wpAnyH_done (by kernel_rfl) ?_ _
        have hHeld := hHeld4
        obtain ⟨⟨kz0, kc0, kf0⟩, ⟨kz1, kc1, kf1⟩, ⟨kz2, kc2, kf2⟩, ⟨kz3, kc3, kf3⟩, _⟩ := hHeld.2
        all_goals
          go_wp2_with fail
          refine bodyPost_ret (v := .tuple #[slV y0 y1, slV y2 y3, .bool true]) (by simp [results, Tryz.results29, go_sem, *]) rfl ⟨by simp, hHeld.1⟩
      · rw [gs] at LL
        obtain ⟨f1, f2⟩ := HF.out
        rw [gs] at f1 f2
        have f3 : F = ⟨0, 0, 0, 0⟩ := f1
        have f4 : P = false := f2
        subst f3 f4
        clear gs W1 W2 HF f1 f2
        simp only
        obtain ⟨n0, n1, n2, n3⟩ := N
        simp only at *
        obtain ⟨⟨kz0, kc0, kf0⟩, ⟨kz1, kc1, kf1⟩, ⟨kz2, kc2, kf2⟩, ⟨kz3, kc3, kf3⟩, ⟨kz4, kc4, kf4⟩, ⟨kz5, kc5, kf5⟩, ⟨kz6, kc6, kf6⟩, ⟨kz7, kc7, kf7⟩, _⟩ := hB.out.2
        go_wp2_with fail
        refine (LL.out _).mono ?_
        rintro en w8 ⟨rfl, hb8⟩
        have HB8 := Lib.hid (hB.out.next hb8)
        clear hb8 kz0 kc0 kf0 kz1 kc1 kf1 kz2 kc2 kf2 kz3 kc3 kf3 kz4 kc4 kf4 kz5 kc5 kf5 kz6 kc6 kf6 kz7 kc7 kf7 hB LL
        obtain ⟨⟨kz0, kc0, kf0⟩, ⟨kz1, kc1, kf1⟩, ⟨kz2, kc2, kf2⟩, ⟨kz3, kc3, kf3⟩, _⟩ := HB8.out.2
        have HBW := Lib.hid ((((HB8.out.1.setCell (p := ⟨w.heap.size, 0, none⟩) (Nat.le_refl _) (.int .i64 0)).setCell (p := ⟨w.heap.size, 1, none⟩) (Nat.le_refl _) (.int .i64 0)).setCell (p := ⟨w.heap.size + 1, 0, none⟩) (Nat.le_succ _) (.int .i64 0)).setCell (p := ⟨w.heap.size + 1, 1, none⟩) (Nat.le_succ _) (.int .i64 0))
        go_wp2_with fail
        refine bodyPost_ret (v := .tuple #[slV 0 0, slV 0 0, .bool false]) (by simp [results, Tryz.results29, go_sem, *]) rfl ⟨by simp, HBW.out⟩
end Go.Proofs.YtmdhgiaaofdjiaaGreat.P10
