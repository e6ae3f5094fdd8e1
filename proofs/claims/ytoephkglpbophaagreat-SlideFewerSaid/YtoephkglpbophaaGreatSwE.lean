/-
  Layer 9: swing: a door takes a band behind its hinge. Conditions: those written at each fact.
-/
import Derived.Maps.RangeWalk
import Derived.Test.YtoephkglpbophaaGreatSwD
namespace Go.Proofs.YtoephkglpbophaaGreat.P9
open Go.RowKit Go.Shelf Go.Proofs.YtoephkglpbophaaGreat.P8
attribute [local go_sem] end0 end1

set_option maxRecDepth 100000 in
set_option maxHeartbeats 8000000 in
theorem take_yes (T : Nat) (t v a b c d u lo hi p q r s p2 q2 r2 s2 : Int) (h : t < u) (w : World) (hT : DrAt w T ⟨t, v, a, b, c, d⟩)
    (S1 : ∀ W, Calls Tryz.prog 91 #[hgV t v, .int .i64 u, .int .i64 lo] W (Ret W (slV p q)))
    (S2 : ∀ W, Calls Tryz.prog 91 #[hgV t v, .int .i64 u, .int .i64 hi] W (Ret W (slV r s)))
    (x1 y1 x2 y2 : Int)
    (R1 : ∀ W, Calls Tryz.prog 92 #[slV a b, slV p q] W (Ret W (arV x1 y1 p2 q2)))
    (R2 : ∀ W, Calls Tryz.prog 92 #[slV c d, slV r s] W (Ret W (arV r2 s2 x2 y2))) :
    Calls Tryz.prog 68 #[.pointer (some ⟨T, 0, none⟩), bandV ⟨u, lo, hi⟩] w (Took w T ⟨t, v, p2, q2, r2, s2⟩) := by
  have HT := Lib.hid hT
  replace S1 := Lib.hid S1
  replace S2 := Lib.hid S2
  replace R1 := Lib.hid R1
  replace R2 := Lib.hid R2
  obtain ⟨⟨tz0, tc0, tf0⟩, ⟨tz1, tc1, tf1⟩, ⟨tz2, tc2, tf2⟩, ⟨tz3, tc3, tf3⟩, ⟨tz4, tc4, tf4⟩, ⟨tz5, tc5, tf5⟩, _⟩ := hT
  have i1 : decide (t < u) = true := decide_eq_true h
  simp only at tc0 tc1 tc2 tc3 tc4 tc5
  clear h
  go_enter Tryz.func68, Tryz.ntmps68
  go_wp2_with fail
  go_quiet (fail)
  go_wp2_with fail
  have hHs : Keeps w [(T, 0, .int .i64 t), (T, 1, .int .i64 v), (w.heap.size, 0, .int .i64 u), (w.heap.size, 1, .int .i64 lo), (w.heap.size, 2, .int .i64 hi), (w.heap.size + 1, 0, .int .i64 0), (w.heap.size + 1, 1, .int .i64 0), (w.heap.size + 1, 2, .int .i64 0), (w.heap.size + 1, 3, .int .i64 0), (w.heap.size + 1, 4, .int .i64 0), (w.heap.size + 1, 5, .int .i64 0)] (((w.alloc (.cells #[.int .i64 u, .int .i64 lo, .int .i64 hi] 46)).alloc (.cells #[.int .i64 0, .int .i64 0, .int .i64 0, .int .i64 0, .int .i64 0, .int .i64 0] 63)).drewN nq) := by
    have hb : Below w.heap.size w (((w.alloc (.cells #[.int .i64 u, .int .i64 lo, .int .i64 hi] 46)).alloc (.cells #[.int .i64 0, .int .i64 0, .int .i64 0, .int .i64 0, .int .i64 0, .int .i64 0] 63)).drewN nq) := below_drewN (((Below.refl _ w).alloc (Nat.le_refl _) _).alloc (by simp) _) nq
    have h1 := HT.out.next hb
    refine ⟨hb, h1.1, h1.2.1, ?_⟩
    simp [Cells, go_sem]
  generalize hG : (((w.alloc (.cells #[.int .i64 u, .int .i64 lo, .int .i64 hi] 46)).alloc (.cells #[.int .i64 0, .int .i64 0, .int .i64 0, .int .i64 0, .int .i64 0, .int .i64 0] 63)).drewN nq) = wi at hHs ⊢
  clear hG tz0 tc0 tf0 tz1 tc1 tf1 tz2 tc2 tf2 tz3 tc3 tf3 tz4 tc4 tf4 tc5 tf5
  go_cut [5, 6] (fun s5 s6 wx => ∃ g g' : Nat, s5 = .pointer (some ⟨g, 0, none⟩) ∧ s6 = .pointer (some ⟨g', 0, none⟩) ∧ w.heap.size ≤ g ∧ w.heap.size ≤ g' ∧ Keeps w [(g, 0, .int .i64 p), (g, 1, .int .i64 q), (g', 0, .int .i64 r), (g', 1, .int .i64 s), (w.heap.size + 1, 0, .int .i64 0), (w.heap.size + 1, 1, .int .i64 0), (w.heap.size + 1, 2, .int .i64 0), (w.heap.size + 1, 3, .int .i64 0), (w.heap.size + 1, 4, .int .i64 0), (w.heap.size + 1, 5, .int .i64 0)] wx)
  case first =>
    refine region_keeps (w0 := w) (L := [(T, 0, .int .i64 t), (T, 1, .int .i64 v), (w.heap.size, 0, .int .i64 u), (w.heap.size, 1, .int .i64 lo), (w.heap.size, 2, .int .i64 hi), (w.heap.size + 1, 0, .int .i64 0), (w.heap.size + 1, 1, .int .i64 0), (w.heap.size + 1, 2, .int .i64 0), (w.heap.size + 1, 3, .int .i64 0), (w.heap.size + 1, 4, .int .i64 0), (w.heap.size + 1, 5, .int .i64 0)]) (by kernel_rfl) hHs (fun hHeld0 => ?_)
    refine wpAnyH_take (i := 0) (oi := ⟨some 15, _, _, _, _, _⟩) (v := ?_) rfl (by kernel_rfl) (by kernel_rfl) (by kernel_rfl) (fun _ _ _ h => h) (Or.inl ⟨by rfl, ?_⟩) (by assumption) ?_
    rotate_left
    · intro wq hSw; go_simp; (try with_reducible rfl)
    try go_frame
    refine wpAnyH_take (i := 1) (oi := ⟨some 16, _, _, _, _, _⟩) (v := ?_) rfl (by kernel_rfl) (by kernel_rfl) (by kernel_rfl) (fun _ _ _ h => h) (Or.inl ⟨by rfl, ?_⟩) (by assumption) ?_
    rotate_left
    · intro wq hSw; go_simp; (try with_reducible rfl)
    try go_frame
    refine wpAnyH_take (i := 2) (oi := ⟨some 17, _, _, _, _, _⟩) (v := ?_) rfl (by kernel_rfl) (by kernel_rfl) (by kernel_rfl) (fun _ _ _ h => h) (Or.inl ⟨by rfl, ?_⟩) (by assumption) ?_
    rotate_left
    · intro wq hSw; go_simp; (try with_reducible rfl)
    try go_frame
    refine wpAnyH_take (i := 3) (oi := ⟨some 18, _, _, _, _, _⟩) (v := ?_) rfl (by kernel_rfl) (by kernel_rfl) (by kernel_rfl) (fun _ _ _ h => h) (Or.inl ⟨by rfl, ?_⟩) (by assumption) ?_
    rotate_left
    · intro wq hSw; obtain ⟨⟨qz0, qc0, qf0⟩, ⟨qz1, qc1, qf1⟩, ⟨qz2, qc2, qf2⟩, ⟨qz3, qc3, qf3⟩, ⟨qz4, qc4, qf4⟩, ⟨qz5, qc5, qf5⟩, ⟨qz6, qc6, qf6⟩, ⟨qz7, qc7, qf7⟩, ⟨qz8, qc8, qf8⟩, ⟨qz9, qc9, qf9⟩, ⟨qz10, qc10, qf10⟩, _⟩ := hSw.2; go_simp; (try with_reducible rfl)
    try go_frame
    refine wpAnyH_take (i := 4) (oi := ⟨some 19, _, _, _, _, _⟩) (v := ?_) rfl (by kernel_rfl) (by kernel_rfl) (by kernel_rfl) (fun _ _ _ h => h) (Or.inl ⟨by rfl, ?_⟩) (by assumption) ?_
    rotate_left
    · intro wq hSw; go_simp; (try with_reducible rfl)
    try go_frame
    refine wpAnyH_take (i := 5) (oi := ⟨some 20, _, _, _, _, _⟩) (v := ?_) rfl (by kernel_rfl) (by kernel_rfl) (by kernel_rfl) (fun _ _ _ h => h) (Or.inl ⟨by rfl, ?_⟩) (by assumption) ?_
    rotate_left
    · intro wq hSw; obtain ⟨⟨qz0, qc0, qf0⟩, ⟨qz1, qc1, qf1⟩, ⟨qz2, qc2, qf2⟩, ⟨qz3, qc3, qf3⟩, ⟨qz4, qc4, qf4⟩, ⟨qz5, qc5, qf5⟩, ⟨qz6, qc6, qf6⟩, ⟨qz7, qc7, qf7⟩, ⟨qz8, qc8, qf8⟩, ⟨qz9, qc9, qf9⟩, ⟨qz10, qc10, qf10⟩, _⟩ := hSw.2; go_simp; (try with_reducible rfl)
    try go_frame
    refine wpAnyH_take (i := 6) (oi := ⟨some 21, _, _, _, _, _⟩) (v := ?_) rfl (by kernel_rfl) (by kernel_rfl) (by kernel_rfl) (fun _ _ _ h => h) (Or.inl ⟨by rfl, ?_⟩) (by assumption) ?_
    rotate_left
    · intro wq hSw; go_simp; (try with_reducible rfl)
    try go_frame
    refine wpAnyH_take (i := 7) (oi := ⟨some 22, _, _, _, _, _⟩) (v := ?_) rfl (by kernel_rfl) (by kernel_rfl) (by kernel_rfl) (fun _ _ _ h => h) (Or.inl ⟨by rfl, ?_⟩) (by assumption) ?_
    rotate_left
    · intro wq hSw; obtain ⟨⟨qz0, qc0, qf0⟩, ⟨qz1, qc1, qf1⟩, ⟨qz2, qc2, qf2⟩, ⟨qz3, qc3, qf3⟩, ⟨qz4, qc4, qf4⟩, ⟨qz5, qc5, qf5⟩, ⟨qz6, qc6, qf6⟩, ⟨qz7, qc7, qf7⟩, ⟨qz8, qc8, qf8⟩, ⟨qz9, qc9, qf9⟩, ⟨qz10, qc10, qf10⟩, _⟩ := hSw.2; go_simp; (try with_reducible rfl)
    try go_frame
    refine wpAnyH_take (i := 9) (oi := ⟨some 24, _, _, _, _, _⟩) (v := ?_) rfl (by kernel_rfl) (by kernel_rfl) (by kernel_rfl) (fun _ _ _ h => h) (Or.inl ⟨by rfl, ?_⟩) (by assumption) ?_
    rotate_left
    · intro wq hSw; go_simp; (try with_reducible rfl)
    try go_frame
    refine wpAnyH_take (i := 10) (oi := ⟨some 25, _, _, _, _, _⟩) (v := ?_) rfl (by kernel_rfl) (by kernel_rfl) (by kernel_rfl) (fun _ _ _ h => h) (Or.inl ⟨by rfl, ?_⟩) (by assumption) ?_
    rotate_left
    · intro wq hSw; go_simp; (try with_reducible rfl)
    try go_frame
    refine wpAnyH_take (i := 11) (oi := ⟨some 26, _, _, _, _, _⟩) (v := ?_) rfl (by kernel_rfl) (by kernel_rfl) (by kernel_rfl) (fun _ _ _ h => h) (Or.inl ⟨by rfl, ?_⟩) (by assumption) ?_
    rotate_left
    · intro wq hSw; go_simp; (try with_reducible rfl)
    try go_frame
    refine wpAnyH_take (i := 12) (oi := ⟨some 27, _, _, _, _, _⟩) (v := ?_) rfl (by kernel_rfl) (by kernel_rfl) (by kernel_rfl) (fun _ _ _ h => h) (Or.inl ⟨by rfl, ?_⟩) (by assumption) ?_
    rotate_left
    · intro wq hSw; obtain ⟨⟨qz0, qc0, qf0⟩, ⟨qz1, qc1, qf1⟩, ⟨qz2, qc2, qf2⟩, ⟨qz3, qc3, qf3⟩, ⟨qz4, qc4, qf4⟩, ⟨qz5, qc5, qf5⟩, ⟨qz6, qc6, qf6⟩, ⟨qz7, qc7, qf7⟩, ⟨qz8, qc8, qf8⟩, ⟨qz9, qc9, qf9⟩, ⟨qz10, qc10, qf10⟩, _⟩ := hSw.2; go_simp; (try with_reducible rfl)
    try go_frame
    refine wpAnyH_take (i := 13) (oi := ⟨some 28, _, _, _, _, _⟩) (v := ?_) rfl (by kernel_rfl) (by kernel_rfl) (by kernel_rfl) (fun _ _ _ h => h) (Or.inl ⟨by rfl, ?_⟩) (by assumption) ?_
    rotate_left
    · intro wq hSw; go_simp; (try with_reducible rfl)
    try go_frame
    refine wpAnyH_take (i := 14) (oi := ⟨some 29, _, _, _, _, _⟩) (v := ?_) rfl (by kernel_rfl) (by kernel_rfl) (by kernel_rfl) (fun _ _ _ h => h) (Or.inl ⟨by rfl, ?_⟩) (by assumption) ?_
    rotate_left
    · intro wq hSw; obtain ⟨⟨qz0, qc0, qf0⟩, ⟨qz1, qc1, qf1⟩, ⟨qz2, qc2, qf2⟩, ⟨qz3, qc3, qf3⟩, ⟨qz4, qc4, qf4⟩, ⟨qz5, qc5, qf5⟩, ⟨qz6, qc6, qf6⟩, ⟨qz7, qc7, qf7⟩, ⟨qz8, qc8, qf8⟩, ⟨qz9, qc9, qf9⟩, ⟨qz10, qc10, qf10⟩, _⟩ := hSw.2; go_simp; (try with_reducible rfl)
    try go_frame
    refine wpAnyH_take (i := 15) (oi := ⟨some 30, _, _, _, _, _⟩) (v := ?_) rfl (by kernel_rfl) (by kernel_rfl) (by kernel_rfl) (fun _ _ _ h => h) (Or.inl ⟨by rfl, ?_⟩) (by assumption) ?_
    rotate_left
    · intro wq hSw; go_simp; (try with_reducible rfl)
    try go_frame
    refine wpAnyH_take (i := 16) (oi := ⟨some 31, _, _, _, _, _⟩) (v := ?_) rfl (by kernel_rfl) (by kernel_rfl) (by kernel_rfl) (fun _ _ _ h => h) (Or.inl ⟨by rfl, ?_⟩) (by assumption) ?_
    rotate_left
    · intro wq hSw; obtain ⟨⟨qz0, qc0, qf0⟩, ⟨qz1, qc1, qf1⟩, ⟨qz2, qc2, qf2⟩, ⟨qz3, qc3, qf3⟩, ⟨qz4, qc4, qf4⟩, ⟨qz5, qc5, qf5⟩, ⟨qz6, qc6, qf6⟩, ⟨qz7, qc7, qf7⟩, ⟨qz8, qc8, qf8⟩, ⟨qz9, qc9, qf9⟩, ⟨qz10, qc10, qf10⟩, _⟩ := hSw.2; go_simp; (try with_reducible rfl)
    try go_frame
    refine wpAnyH_ready (rs := [8, 18, 19]) (by kernel_rfl) (by simp) ?_
    refine AllReadyH.cons (o := ⟨some 23, _, _, _, _, _⟩) rfl (fun K hK => ?_) ?_
    go_simp
    (first | ((with_reducible refine (S1.out _).mono ?_); rintro e wa ⟨rfl, hb⟩) | ((with_reducible refine (S2.out _).mono ?_); rintro e wb ⟨rfl, hb⟩))
    refine hK.out _ _ (hHeld0.next hb) (fun hHeld1 => ?_)
    clear hK K
    try clear hb
    try go_frame
    refine wpAnyH_ready (rs := [17, 18, 19]) (by kernel_rfl) (by simp) ?_
    refine AllReadyH.cons (o := ⟨some 32, _, _, _, _, _⟩) rfl (fun K hK => ?_) ?_
    go_simp
    (first | ((with_reducible refine (S1.out _).mono ?_); rintro e wa ⟨rfl, hb⟩) | ((with_reducible refine (S2.out _).mono ?_); rintro e wb ⟨rfl, hb⟩))
    refine hK.out _ _ (hHeld1.next hb) (fun hHeld2 => ?_)
    clear hK K
    try clear hb
    try go_frame
    refine wpAnyH_ready (rs := [18, 19]) (by kernel_rfl) (by simp) ?_
    refine AllReadyH.cons (o := ⟨some 5, _, _, _, _, _⟩) rfl (fun K hK => ?_) ?_
    have lo5 := hHeld2.1.size
    obtain ⟨⟨a5_z0, a5_c0, a5_f0⟩, ⟨a5_z1, a5_c1, a5_f1⟩, ⟨a5_z2, a5_c2, a5_f2⟩, ⟨a5_z3, a5_c3, a5_f3⟩, ⟨a5_z4, a5_c4, a5_f4⟩, ⟨a5_z5, a5_c5, a5_f5⟩, ⟨a5_z6, a5_c6, a5_f6⟩, ⟨a5_z7, a5_c7, a5_f7⟩, ⟨a5_z8, a5_c8, a5_f8⟩, ⟨a5_z9, a5_c9, a5_f9⟩, ⟨a5_z10, a5_c10, a5_f10⟩, _⟩ := hHeld2.2
    (try simp at lo5); (try simp at a5_z0); (try simp at a5_z1); (try simp at a5_z2); (try simp at a5_z3); (try simp at a5_z4); (try simp at a5_z5); (try simp at a5_z6); (try simp at a5_z7); (try simp at a5_z8); (try simp at a5_z9); (try simp at a5_z10)
    go_simp
    refine hK.out _ _ (by first | exact hHeld2.alloc _ | exact (hHeld2.alloc _).drew) (fun hHeld3 => ?_)
    first | have hS5 := newK2 hHeld3 | have hS5 := newK2d hHeld3
    clear hK K
    try clear hb
    try go_frame
    generalize hGWA1 : World.alloc wb (.cells #[.int .i64 0, .int .i64 0] 32) = WA1 at *
    clear hGWA1
    refine wpAnyH_ready (rs := [19]) (by kernel_rfl) (by simp) ?_
    refine AllReadyH.cons (o := ⟨some 6, _, _, _, _, _⟩) rfl (fun K hK => ?_) AllReadyH.nil
    have hne5_6 := hS5.2.1.1
    have lo6 := hHeld3.1.size
    obtain ⟨⟨a6_z0, a6_c0, a6_f0⟩, ⟨a6_z1, a6_c1, a6_f1⟩, ⟨a6_z2, a6_c2, a6_f2⟩, ⟨a6_z3, a6_c3, a6_f3⟩, ⟨a6_z4, a6_c4, a6_f4⟩, ⟨a6_z5, a6_c5, a6_f5⟩, ⟨a6_z6, a6_c6, a6_f6⟩, ⟨a6_z7, a6_c7, a6_f7⟩, ⟨a6_z8, a6_c8, a6_f8⟩, ⟨a6_z9, a6_c9, a6_f9⟩, ⟨a6_z10, a6_c10, a6_f10⟩, _⟩ := hHeld3.2
    (try simp at lo6); (try simp at hne5_6); (try simp at a6_z0); (try simp at a6_z1); (try simp at a6_z2); (try simp at a6_z3); (try simp at a6_z4); (try simp at a6_z5); (try simp at a6_z6); (try simp at a6_z7); (try simp at a6_z8); (try simp at a6_z9); (try simp at a6_z10)
    go_simp
    refine hK.out _ _ (by first | exact hHeld3.alloc _ | exact (hHeld3.alloc _).drew) (fun hHeld4 => ?_)
    first | replace hS5 := hS5.alloc2e hHeld4 | replace hS5 := hS5.alloc2 hHeld4
    first | have hS6 := newK2 hHeld4 | have hS6 := newK2d hHeld4
    clear hK K
    try clear hb
    try go_frame
    generalize hGWA2 : World.alloc WA1 (.cells #[.int .i64 0, .int .i64 0] 32) = WA2 at *
    clear hGWA2
    refine wpAnyH_ready (rs := [20]) (by kernel_rfl) (by simp) ?_
    refine AllReadyH.cons (o := ⟨none, _, _, _, _, _⟩) rfl (fun K hK => ?_) AllReadyH.nil
    obtain ⟨⟨s5z0, s5c0, s5f0⟩, ⟨s5z1, s5c1, s5f1⟩, _⟩ := hS5.2
    go_simp
    refine hK.out _ _ (by (repeat (first | (with_reducible exact hHeld4) | (refine Keeps.set ?_ (by simp <;> omega) (by simp <;> omega) _)))) (fun hHeld5 => ?_)
    replace hS6 := hS6.mv2 hHeld5 (by first | omega | (simp <;> omega)) (by simp <;> omega)
    replace hS5 := hHeld5.add2 s5z0 s5c0 s5f0 s5c1 s5f1
    clear s5z0 s5c0 s5f0 s5z1 s5c1 s5f1
    clear hK K
    try clear hb
    try go_frame
    generalize hGWA3 : World.setCell (World.setCell WA2 ⟨wb.heap.size, 0, none⟩ (.int .i64 p)) ⟨wb.heap.size, 1, none⟩ (.int .i64 q) = WA3 at *
    clear hGWA3
    refine wpAnyH_ready (rs := [21]) (by kernel_rfl) (by simp) ?_
    refine AllReadyH.cons (o := ⟨none, _, _, _, _, _⟩) rfl (fun K hK => ?_) AllReadyH.nil
    obtain ⟨⟨s6z0, s6c0, s6f0⟩, ⟨s6z1, s6c1, s6f1⟩, _⟩ := hS6.2
    go_simp
    refine hK.out _ _ (by (repeat (first | (with_reducible exact hHeld5) | (refine Keeps.set ?_ (by simp <;> omega) (by simp <;> omega) _)))) (fun hHeld6 => ?_)
    replace hS5 := hS5.mv2 hHeld6 (by first | omega | (simp <;> omega)) (by simp <;> omega)
    replace hS6 := hHeld6.add2 s6z0 s6c0 s6f0 s6c1 s6f1
    clear s6z0 s6c0 s6f0 s6z1 s6c1 s6f1
    clear hK K
    try clear hb
    try go_frame
    generalize hGWA4 : World.setCell (World.setCell WA3 ⟨WA1.heap.size, 0, none⟩ (.int .i64 r)) ⟨WA1.heap.size, 1, none⟩ (.int .i64 s) = WA4 at *
    clear hGWA4
    refine wpAnyH_done (by kernel_rfl) ?_ _
    have hHeld := hHeld6
    rotate_left 1
    refine AllReadyH.cons (o := ⟨some 6, _, _, _, _, _⟩) rfl (fun K hK => ?_) ?_
    have lo6 := hHeld2.1.size
    obtain ⟨⟨a6_z0, a6_c0, a6_f0⟩, ⟨a6_z1, a6_c1, a6_f1⟩, ⟨a6_z2, a6_c2, a6_f2⟩, ⟨a6_z3, a6_c3, a6_f3⟩, ⟨a6_z4, a6_c4, a6_f4⟩, ⟨a6_z5, a6_c5, a6_f5⟩, ⟨a6_z6, a6_c6, a6_f6⟩, ⟨a6_z7, a6_c7, a6_f7⟩, ⟨a6_z8, a6_c8, a6_f8⟩, ⟨a6_z9, a6_c9, a6_f9⟩, ⟨a6_z10, a6_c10, a6_f10⟩, _⟩ := hHeld2.2
    (try simp at lo6); (try simp at a6_z0); (try simp at a6_z1); (try simp at a6_z2); (try simp at a6_z3); (try simp at a6_z4); (try simp at a6_z5); (try simp at a6_z6); (try simp at a6_z7); (try simp at a6_z8); (try simp at a6_z9); (try simp at a6_z10)
    go_simp
    refine hK.out _ _ (by first | exact hHeld2.alloc _ | exact (hHeld2.alloc _).drew) (fun hHeld7 => ?_)
    first | have hS6 := newK2 hHeld7 | have hS6 := newK2d hHeld7
    clear hK K
    try clear hb
    try go_frame
    generalize hGWA5 : World.alloc wb (.cells #[.int .i64 0, .int .i64 0] 32) = WA5 at *
    clear hGWA5
    refine wpAnyH_ready (rs := [18]) (by kernel_rfl) (by simp) ?_
    refine AllReadyH.cons (o := ⟨some 5, _, _, _, _, _⟩) rfl (fun K hK => ?_) AllReadyH.nil
    have hne6_5 := hS6.2.1.1
    have lo5 := hHeld7.1.size
    obtain ⟨⟨a5_z0, a5_c0, a5_f0⟩, ⟨a5_z1, a5_c1, a5_f1⟩, ⟨a5_z2, a5_c2, a5_f2⟩, ⟨a5_z3, a5_c3, a5_f3⟩, ⟨a5_z4, a5_c4, a5_f4⟩, ⟨a5_z5, a5_c5, a5_f5⟩, ⟨a5_z6, a5_c6, a5_f6⟩, ⟨a5_z7, a5_c7, a5_f7⟩, ⟨a5_z8, a5_c8, a5_f8⟩, ⟨a5_z9, a5_c9, a5_f9⟩, ⟨a5_z10, a5_c10, a5_f10⟩, _⟩ := hHeld7.2
    (try simp at lo5); (try simp at hne6_5); (try simp at a5_z0); (try simp at a5_z1); (try simp at a5_z2); (try simp at a5_z3); (try simp at a5_z4); (try simp at a5_z5); (try simp at a5_z6); (try simp at a5_z7); (try simp at a5_z8); (try simp at a5_z9); (try simp at a5_z10)
    go_simp
    refine hK.out _ _ (by first | exact hHeld7.alloc _ | exact (hHeld7.alloc _).drew) (fun hHeld8 => ?_)
    first | replace hS6 := hS6.alloc2e hHeld8 | replace hS6 := hS6.alloc2 hHeld8
    first | have hS5 := newK2 hHeld8 | have hS5 := newK2d hHeld8
    clear hK K
    try clear hb
    try go_frame
    generalize hGWA6 : World.alloc WA5 (.cells #[.int .i64 0, .int .i64 0] 32) = WA6 at *
    clear hGWA6
    refine wpAnyH_ready (rs := [20]) (by kernel_rfl) (by simp) ?_
    refine AllReadyH.cons (o := ⟨none, _, _, _, _, _⟩) rfl (fun K hK => ?_) AllReadyH.nil
    obtain ⟨⟨s5z0, s5c0, s5f0⟩, ⟨s5z1, s5c1, s5f1⟩, _⟩ := hS5.2
    go_simp
    refine hK.out _ _ (by (repeat (first | (with_reducible exact hHeld8) | (refine Keeps.set ?_ (by simp <;> omega) (by simp <;> omega) _)))) (fun hHeld9 => ?_)
    replace hS6 := hS6.mv2 hHeld9 (by first | omega | (simp <;> omega)) (by simp <;> omega)
    replace hS5 := hHeld9.add2 s5z0 s5c0 s5f0 s5c1 s5f1
    clear s5z0 s5c0 s5f0 s5z1 s5c1 s5f1
    clear hK K
    try clear hb
    try go_frame
    generalize hGWA7 : World.setCell (World.setCell WA6 ⟨WA5.heap.size, 0, none⟩ (.int .i64 p)) ⟨WA5.heap.size, 1, none⟩ (.int .i64 q) = WA7 at *
    clear hGWA7
    refine wpAnyH_ready (rs := [21]) (by kernel_rfl) (by simp) ?_
    refine AllReadyH.cons (o := ⟨none, _, _, _, _, _⟩) rfl (fun K hK => ?_) AllReadyH.nil
    obtain ⟨⟨s6z0, s6c0, s6f0⟩, ⟨s6z1, s6c1, s6f1⟩, _⟩ := hS6.2
    go_simp
    refine hK.out _ _ (by (repeat (first | (with_reducible exact hHeld9) | (refine Keeps.set ?_ (by simp <;> omega) (by simp <;> omega) _)))) (fun hHeld10 => ?_)
    replace hS5 := hS5.mv2 hHeld10 (by first | omega | (simp <;> omega)) (by simp <;> omega)
    replace hS6 := hHeld10.add2 s6z0 s6c0 s6f0 s6c1 s6f1
    clear s6z0 s6c0 s6f0 s6z1 s6c1 s6f1
    clear hK K
    try clear hb
    try go_frame
    generalize hGWA8 : World.setCell (World.setCell WA7 ⟨wb.heap.size, 0, none⟩ (.int .i64 r)) ⟨wb.heap.size, 1, none⟩ (.int .i64 s) = WA8 at *
    clear hGWA8
    refine wpAnyH_done (by kernel_rfl) ?_ _
    have hHeld := hHeld10
    rotate_left 1
    exact AllReadyH.nil
    refine AllReadyH.cons (o := ⟨some 5, _, _, _, _, _⟩) rfl (fun K hK => ?_) ?_
    have lo5 := hHeld1.1.size
    obtain ⟨⟨a5_z0, a5_c0, a5_f0⟩, ⟨a5_z1, a5_c1, a5_f1⟩, ⟨a5_z2, a5_c2, a5_f2⟩, ⟨a5_z3, a5_c3, a5_f3⟩, ⟨a5_z4, a5_c4, a5_f4⟩, ⟨a5_z5, a5_c5, a5_f5⟩, ⟨a5_z6, a5_c6, a5_f6⟩, ⟨a5_z7, a5_c7, a5_f7⟩, ⟨a5_z8, a5_c8, a5_f8⟩, ⟨a5_z9, a5_c9, a5_f9⟩, ⟨a5_z10, a5_c10, a5_f10⟩, _⟩ := hHeld1.2
    (try simp at lo5); (try simp at a5_z0); (try simp at a5_z1); (try simp at a5_z2); (try simp at a5_z3); (try simp at a5_z4); (try simp at a5_z5); (try simp at a5_z6); (try simp at a5_z7); (try simp at a5_z8); (try simp at a5_z9); (try simp at a5_z10)
    go_simp
    refine hK.out _ _ (by first | exact hHeld1.alloc _ | exact (hHeld1.alloc _).drew) (fun hHeld11 => ?_)
    first | have hS5 := newK2 hHeld11 | have hS5 := newK2d hHeld11
    clear hK K
    try clear hb
    try go_frame
    generalize hGWA9 : World.alloc wa (.cells #[.int .i64 0, .int .i64 0] 32) = WA9 at *
    clear hGWA9
    refine wpAnyH_ready (rs := [17, 19]) (by kernel_rfl) (by simp) ?_
    refine AllReadyH.cons (o := ⟨some 32, _, _, _, _, _⟩) rfl (fun K hK => ?_) ?_
    go_simp
    (first | ((with_reducible refine (S1.out _).mono ?_); rintro e wa ⟨rfl, hb⟩) | ((with_reducible refine (S2.out _).mono ?_); rintro e wb ⟨rfl, hb⟩))
    refine hK.out _ _ (hHeld11.next hb) (fun hHeld12 => ?_)
    replace hS5 := hS5.next hb
    clear hK K
    try clear hb
    try go_frame
    refine wpAnyH_ready (rs := [19]) (by kernel_rfl) (by simp) ?_
    refine AllReadyH.cons (o := ⟨some 6, _, _, _, _, _⟩) rfl (fun K hK => ?_) AllReadyH.nil
    have hne5_6 := hS5.2.1.1
    have lo6 := hHeld12.1.size
    obtain ⟨⟨a6_z0, a6_c0, a6_f0⟩, ⟨a6_z1, a6_c1, a6_f1⟩, ⟨a6_z2, a6_c2, a6_f2⟩, ⟨a6_z3, a6_c3, a6_f3⟩, ⟨a6_z4, a6_c4, a6_f4⟩, ⟨a6_z5, a6_c5, a6_f5⟩, ⟨a6_z6, a6_c6, a6_f6⟩, ⟨a6_z7, a6_c7, a6_f7⟩, ⟨a6_z8, a6_c8, a6_f8⟩, ⟨a6_z9, a6_c9, a6_f9⟩, ⟨a6_z10, a6_c10, a6_f10⟩, _⟩ := hHeld12.2
    (try simp at lo6); (try simp at hne5_6); (try simp at a6_z0); (try simp at a6_z1); (try simp at a6_z2); (try simp at a6_z3); (try simp at a6_z4); (try simp at a6_z5); (try simp at a6_z6); (try simp at a6_z7); (try simp at a6_z8); (try simp at a6_z9); (try simp at a6_z10)
    go_simp
    refine hK.out _ _ (by first | exact hHeld12.alloc _ | exact (hHeld12.alloc _).drew) (fun hHeld13 => ?_)
    first | replace hS5 := hS5.alloc2e hHeld13 | replace hS5 := hS5.alloc2 hHeld13
    first | have hS6 := newK2 hHeld13 | have hS6 := newK2d hHeld13
    clear hK K
    try clear hb
    try go_frame
    generalize hGWA10 : World.alloc wb (.cells #[.int .i64 0, .int .i64 0] 32) = WA10 at *
    clear hGWA10
    refine wpAnyH_ready (rs := [20]) (by kernel_rfl) (by simp) ?_
    refine AllReadyH.cons (o := ⟨none, _, _, _, _, _⟩) rfl (fun K hK => ?_) AllReadyH.nil
    obtain ⟨⟨s5z0, s5c0, s5f0⟩, ⟨s5z1, s5c1, s5f1⟩, _⟩ := hS5.2
    go_simp
    refine hK.out _ _ (by (repeat (first | (with_reducible exact hHeld13) | (refine Keeps.set ?_ (by simp <;> omega) (by simp <;> omega) _)))) (fun hHeld14 => ?_)
    replace hS6 := hS6.mv2 hHeld14 (by first | omega | (simp <;> omega)) (by simp <;> omega)
    replace hS5 := hHeld14.add2 s5z0 s5c0 s5f0 s5c1 s5f1
    clear s5z0 s5c0 s5f0 s5z1 s5c1 s5f1
    clear hK K
    try clear hb
    try go_frame
    generalize hGWA11 : World.setCell (World.setCell WA10 ⟨wa.heap.size, 0, none⟩ (.int .i64 p)) ⟨wa.heap.size, 1, none⟩ (.int .i64 q) = WA11 at *
    clear hGWA11
    refine wpAnyH_ready (rs := [21]) (by kernel_rfl) (by simp) ?_
    refine AllReadyH.cons (o := ⟨none, _, _, _, _, _⟩) rfl (fun K hK => ?_) AllReadyH.nil
    obtain ⟨⟨s6z0, s6c0, s6f0⟩, ⟨s6z1, s6c1, s6f1⟩, _⟩ := hS6.2
    go_simp
    refine hK.out _ _ (by (repeat (first | (with_reducible exact hHeld14) | (refine Keeps.set ?_ (by simp <;> omega) (by simp <;> omega) _)))) (fun hHeld15 => ?_)
    replace hS5 := hS5.mv2 hHeld15 (by first | omega | (simp <;> omega)) (by simp <;> omega)
    replace hS6 := hHeld15.add2 s6z0 s6c0 s6f0 s6c1 s6f1
    clear s6z0 s6c0 s6f0 s6z1 s6c1 s6f1
    clear hK K
    try clear hb
    try go_frame
    generalize hGWA12 : World.setCell (World.setCell WA11 ⟨wb.heap.size, 0, none⟩ (.int .i64 r)) ⟨wb.heap.size, 1, none⟩ (.int .i64 s) = WA12 at *
    clear hGWA12
    refine wpAnyH_done (by kernel_rfl) ?_ _
    have hHeld := hHeld15
    rotate_left 1
    refine AllReadyH.cons (o := ⟨some 6, _, _, _, _, _⟩) rfl (fun K hK => ?_) ?_
    have hne5_6 := hS5.2.1.1
    have lo6 := hHeld11.1.size
    obtain ⟨⟨a6_z0, a6_c0, a6_f0⟩, ⟨a6_z1, a6_c1, a6_f1⟩, ⟨a6_z2, a6_c2, a6_f2⟩, ⟨a6_z3, a6_c3, a6_f3⟩, ⟨a6_z4, a6_c4, a6_f4⟩, ⟨a6_z5, a6_c5, a6_f5⟩, ⟨a6_z6, a6_c6, a6_f6⟩, ⟨a6_z7, a6_c7, a6_f7⟩, ⟨a6_z8, a6_c8, a6_f8⟩, ⟨a6_z9, a6_c9, a6_f9⟩, ⟨a6_z10, a6_c10, a6_f10⟩, _⟩ := hHeld11.2
    (try simp at lo6); (try simp at hne5_6); (try simp at a6_z0); (try simp at a6_z1); (try simp at a6_z2); (try simp at a6_z3); (try simp at a6_z4); (try simp at a6_z5); (try simp at a6_z6); (try simp at a6_z7); (try simp at a6_z8); (try simp at a6_z9); (try simp at a6_z10)
    go_simp
    refine hK.out _ _ (by first | exact hHeld11.alloc _ | exact (hHeld11.alloc _).drew) (fun hHeld16 => ?_)
    first | replace hS5 := hS5.alloc2e hHeld16 | replace hS5 := hS5.alloc2 hHeld16
    first | have hS6 := newK2 hHeld16 | have hS6 := newK2d hHeld16
    clear hK K
    try clear hb
    try go_frame
    generalize hGWA13 : World.alloc WA9 (.cells #[.int .i64 0, .int .i64 0] 32) = WA13 at *
    clear hGWA13
    refine wpAnyH_ready (rs := [17]) (by kernel_rfl) (by simp) ?_
    refine AllReadyH.cons (o := ⟨some 32, _, _, _, _, _⟩) rfl (fun K hK => ?_) AllReadyH.nil
    go_simp
    (first | ((with_reducible refine (S1.out _).mono ?_); rintro e wa ⟨rfl, hb⟩) | ((with_reducible refine (S2.out _).mono ?_); rintro e wb ⟨rfl, hb⟩))
    refine hK.out _ _ (hHeld16.next hb) (fun hHeld17 => ?_)
    replace hS5 := hS5.next hb
    replace hS6 := hS6.next hb
    clear hK K
    try clear hb
    try go_frame
    refine wpAnyH_ready (rs := [20]) (by kernel_rfl) (by simp) ?_
    refine AllReadyH.cons (o := ⟨none, _, _, _, _, _⟩) rfl (fun K hK => ?_) AllReadyH.nil
    obtain ⟨⟨s5z0, s5c0, s5f0⟩, ⟨s5z1, s5c1, s5f1⟩, _⟩ := hS5.2
    go_simp
    refine hK.out _ _ (by (repeat (first | (with_reducible exact hHeld17) | (refine Keeps.set ?_ (by simp <;> omega) (by simp <;> omega) _)))) (fun hHeld18 => ?_)
    replace hS6 := hS6.mv2 hHeld18 (by first | omega | (simp <;> omega)) (by simp <;> omega)
    replace hS5 := hHeld18.add2 s5z0 s5c0 s5f0 s5c1 s5f1
    clear s5z0 s5c0 s5f0 s5z1 s5c1 s5f1
    clear hK K
    try clear hb
    try go_frame
    generalize hGWA14 : World.setCell (World.setCell wb ⟨wa.heap.size, 0, none⟩ (.int .i64 p)) ⟨wa.heap.size, 1, none⟩ (.int .i64 q) = WA14 at *
    clear hGWA14
    refine wpAnyH_ready (rs := [21]) (by kernel_rfl) (by simp) ?_
    refine AllReadyH.cons (o := ⟨none, _, _, _, _, _⟩) rfl (fun K hK => ?_) AllReadyH.nil
    obtain ⟨⟨s6z0, s6c0, s6f0⟩, ⟨s6z1, s6c1, s6f1⟩, _⟩ := hS6.2
    go_simp
    refine hK.out _ _ (by (repeat (first | (with_reducible exact hHeld18) | (refine Keeps.set ?_ (by simp <;> omega) (by simp <;> omega) _)))) (fun hHeld19 => ?_)
    replace hS5 := hS5.mv2 hHeld19 (by first | omega | (simp <;> omega)) (by simp <;> omega)
    replace hS6 := hHeld19.add2 s6z0 s6c0 s6f0 s6c1 s6f1
    clear s6z0 s6c0 s6f0 s6z1 s6c1 s6f1
    clear hK K
    try clear hb
    try go_frame
    generalize hGWA15 : World.setCell (World.setCell WA14 ⟨WA9.heap.size, 0, none⟩ (.int .i64 r)) ⟨WA9.heap.size, 1, none⟩ (.int .i64 s) = WA15 at *
    clear hGWA15
    refine wpAnyH_done (by kernel_rfl) ?_ _
    have hHeld := hHeld19
    rotate_left 1
    exact AllReadyH.nil
    refine AllReadyH.cons (o := ⟨some 6, _, _, _, _, _⟩) rfl (fun K hK => ?_) ?_
    have lo6 := hHeld1.1.size
    obtain ⟨⟨a6_z0, a6_c0, a6_f0⟩, ⟨a6_z1, a6_c1, a6_f1⟩, ⟨a6_z2, a6_c2, a6_f2⟩, ⟨a6_z3, a6_c3, a6_f3⟩, ⟨a6_z4, a6_c4, a6_f4⟩, ⟨a6_z5, a6_c5, a6_f5⟩, ⟨a6_z6, a6_c6, a6_f6⟩, ⟨a6_z7, a6_c7, a6_f7⟩, ⟨a6_z8, a6_c8, a6_f8⟩, ⟨a6_z9, a6_c9, a6_f9⟩, ⟨a6_z10, a6_c10, a6_f10⟩, _⟩ := hHeld1.2
    (try simp at lo6); (try simp at a6_z0); (try simp at a6_z1); (try simp at a6_z2); (try simp at a6_z3); (try simp at a6_z4); (try simp at a6_z5); (try simp at a6_z6); (try simp at a6_z7); (try simp at a6_z8); (try simp at a6_z9); (try simp at a6_z10)
    go_simp
    refine hK.out _ _ (by first | exact hHeld1.alloc _ | exact (hHeld1.alloc _).drew) (fun hHeld20 => ?_)
    first | have hS6 := newK2 hHeld20 | have hS6 := newK2d hHeld20
    clear hK K
    try clear hb
    try go_frame
    generalize hGWA16 : World.alloc wa (.cells #[.int .i64 0, .int .i64 0] 32) = WA16 at *
    clear hGWA16
    refine wpAnyH_ready (rs := [17, 18]) (by kernel_rfl) (by simp) ?_
    refine AllReadyH.cons (o := ⟨some 32, _, _, _, _, _⟩) rfl (fun K hK => ?_) ?_
    go_simp
    (first | ((with_reducible refine (S1.out _).mono ?_); rintro e wa ⟨rfl, hb⟩) | ((with_reducible refine (S2.out _).mono ?_); rintro e wb ⟨rfl, hb⟩))
    refine hK.out _ _ (hHeld20.next hb) (fun hHeld21 => ?_)
    replace hS6 := hS6.next hb
    clear hK K
    try clear hb
    try go_frame
    refine wpAnyH_ready (rs := [18]) (by kernel_rfl) (by simp) ?_
    refine AllReadyH.cons (o := ⟨some 5, _, _, _, _, _⟩) rfl (fun K hK => ?_) AllReadyH.nil
    have hne6_5 := hS6.2.1.1
    have lo5 := hHeld21.1.size
    obtain ⟨⟨a5_z0, a5_c0, a5_f0⟩, ⟨a5_z1, a5_c1, a5_f1⟩, ⟨a5_z2, a5_c2, a5_f2⟩, ⟨a5_z3, a5_c3, a5_f3⟩, ⟨a5_z4, a5_c4, a5_f4⟩, ⟨a5_z5, a5_c5, a5_f5⟩, ⟨a5_z6, a5_c6, a5_f6⟩, ⟨a5_z7, a5_c7, a5_f7⟩, ⟨a5_z8, a5_c8, a5_f8⟩, ⟨a5_z9, a5_c9, a5_f9⟩, ⟨a5_z10, a5_c10, a5_f10⟩, _⟩ := hHeld21.2
    (try simp at lo5); (try simp at hne6_5); (try simp at a5_z0); (try simp at a5_z1); (try simp at a5_z2); (try simp at a5_z3); (try simp at a5_z4); (try simp at a5_z5); (try simp at a5_z6); (try simp at a5_z7); (try simp at a5_z8); (try simp at a5_z9); (try simp at a5_z10)
    go_simp
    refine hK.out _ _ (by first | exact hHeld21.alloc _ | exact (hHeld21.alloc _).drew) (fun hHeld22 => ?_)
    first | replace hS6 := hS6.alloc2e hHeld22 | replace hS6 := hS6.alloc2 hHeld22
    first | have hS5 := newK2 hHeld22 | have hS5 := newK2d hHeld22
    clear hK K
    try clear hb
    try go_frame
    generalize hGWA17 : World.alloc wb (.cells #[.int .i64 0, .int .i64 0] 32) = WA17 at *
    clear hGWA17
    refine wpAnyH_ready (rs := [20]) (by kernel_rfl) (by simp) ?_
    refine AllReadyH.cons (o := ⟨none, _, _, _, _, _⟩) rfl (fun K hK => ?_) AllReadyH.nil
    obtain ⟨⟨s5z0, s5c0, s5f0⟩, ⟨s5z1, s5c1, s5f1⟩, _⟩ := hS5.2
    go_simp
    refine hK.out _ _ (by (repeat (first | (with_reducible exact hHeld22) | (refine Keeps.set ?_ (by simp <;> omega) (by simp <;> omega) _)))) (fun hHeld23 => ?_)
    replace hS6 := hS6.mv2 hHeld23 (by first | omega | (simp <;> omega)) (by simp <;> omega)
    replace hS5 := hHeld23.add2 s5z0 s5c0 s5f0 s5c1 s5f1
    clear s5z0 s5c0 s5f0 s5z1 s5c1 s5f1
    clear hK K
    try clear hb
    try go_frame
    generalize hGWA18 : World.setCell (World.setCell WA17 ⟨wb.heap.size, 0, none⟩ (.int .i64 p)) ⟨wb.heap.size, 1, none⟩ (.int .i64 q) = WA18 at *
    clear hGWA18
    refine wpAnyH_ready (rs := [21]) (by kernel_rfl) (by simp) ?_
    refine AllReadyH.cons (o := ⟨none, _, _, _, _, _⟩) rfl (fun K hK => ?_) AllReadyH.nil
    obtain ⟨⟨s6z0, s6c0, s6f0⟩, ⟨s6z1, s6c1, s6f1⟩, _⟩ := hS6.2
    go_simp
    refine hK.out _ _ (by (repeat (first | (with_reducible exact hHeld23) | (refine Keeps.set ?_ (by simp <;> omega) (by simp <;> omega) _)))) (fun hHeld24 => ?_)
    replace hS5 := hS5.mv2 hHeld24 (by first | omega | (simp <;> omega)) (by simp <;> omega)
    replace hS6 := hHeld24.add2 s6z0 s6c0 s6f0 s6c1 s6f1
    clear s6z0 s6c0 s6f0 s6z1 s6c1 s6f1
    clear hK K
    try clear hb
    try go_frame
    generalize hGWA19 : World.setCell (World.setCell WA18 ⟨wa.heap.size, 0, none⟩ (.int .i64 r)) ⟨wa.heap.size, 1, none⟩ (.int .i64 s) = WA19 at *
    clear hGWA19
    refine wpAnyH_done (by kernel_rfl) ?_ _
    have hHeld := hHeld24
    rotate_left 1
    refine AllReadyH.cons (o := ⟨some 5, _, _, _, _, _⟩) rfl (fun K hK => ?_) ?_
    have hne6_5 := hS6.2.1.1
    have lo5 := hHeld20.1.size
    obtain ⟨⟨a5_z0, a5_c0, a5_f0⟩, ⟨a5_z1, a5_c1, a5_f1⟩, ⟨a5_z2, a5_c2, a5_f2⟩, ⟨a5_z3, a5_c3, a5_f3⟩, ⟨a5_z4, a5_c4, a5_f4⟩, ⟨a5_z5, a5_c5, a5_f5⟩, ⟨a5_z6, a5_c6, a5_f6⟩, ⟨a5_z7, a5_c7, a5_f7⟩, ⟨a5_z8, a5_c8, a5_f8⟩, ⟨a5_z9, a5_c9, a5_f9⟩, ⟨a5_z10, a5_c10, a5_f10⟩, _⟩ := hHeld20.2
    (try simp at lo5); (try simp at hne6_5); (try simp at a5_z0); (try simp at a5_z1); (try simp at a5_z2); (try simp at a5_z3); (try simp at a5_z4); (try simp at a5_z5); (try simp at a5_z6); (try simp at a5_z7); (try simp at a5_z8); (try simp at a5_z9); (try simp at a5_z10)
    go_simp
    refine hK.out _ _ (by first | exact hHeld20.alloc _ | exact (hHeld20.alloc _).drew) (fun hHeld25 => ?_)
    first | replace hS6 := hS6.alloc2e hHeld25 | replace hS6 := hS6.alloc2 hHeld25
    first | have hS5 := newK2 hHeld25 | have hS5 := newK2d hHeld25
    clear hK K
    try clear hb
    try go_frame
    generalize hGWA20 : World.alloc WA16 (.cells #[.int .i64 0, .int .i64 0] 32) = WA20 at *
    clear hGWA20
    refine wpAnyH_ready (rs := [17]) (by kernel_rfl) (by simp) ?_
    refine AllReadyH.cons (o := ⟨some 32, _, _, _, _, _⟩) rfl (fun K hK => ?_) AllReadyH.nil
    go_simp
    (first | ((with_reducible refine (S1.out _).mono ?_); rintro e wa ⟨rfl, hb⟩) | ((with_reducible refine (S2.out _).mono ?_); rintro e wb ⟨rfl, hb⟩))
    refine hK.out _ _ (hHeld25.next hb) (fun hHeld26 => ?_)
    replace hS6 := hS6.next hb
    replace hS5 := hS5.next hb
    clear hK K
    try clear hb
    try go_frame
    refine wpAnyH_ready (rs := [20]) (by kernel_rfl) (by simp) ?_
    refine AllReadyH.cons (o := ⟨none, _, _, _, _, _⟩) rfl (fun K hK => ?_) AllReadyH.nil
    obtain ⟨⟨s5z0, s5c0, s5f0⟩, ⟨s5z1, s5c1, s5f1⟩, _⟩ := hS5.2
    go_simp
    refine hK.out _ _ (by (repeat (first | (with_reducible exact hHeld26) | (refine Keeps.set ?_ (by simp <;> omega) (by simp <;> omega) _)))) (fun hHeld27 => ?_)
    replace hS6 := hS6.mv2 hHeld27 (by first | omega | (simp <;> omega)) (by simp <;> omega)
    replace hS5 := hHeld27.add2 s5z0 s5c0 s5f0 s5c1 s5f1
    clear s5z0 s5c0 s5f0 s5z1 s5c1 s5f1
    clear hK K
    try clear hb
    try go_frame
    generalize hGWA21 : World.setCell (World.setCell wb ⟨WA16.heap.size, 0, none⟩ (.int .i64 p)) ⟨WA16.heap.size, 1, none⟩ (.int .i64 q) = WA21 at *
    clear hGWA21
    refine wpAnyH_ready (rs := [21]) (by kernel_rfl) (by simp) ?_
    refine AllReadyH.cons (o := ⟨none, _, _, _, _, _⟩) rfl (fun K hK => ?_) AllReadyH.nil
    obtain ⟨⟨s6z0, s6c0, s6f0⟩, ⟨s6z1, s6c1, s6f1⟩, _⟩ := hS6.2
    go_simp
    refine hK.out _ _ (by (repeat (first | (with_reducible exact hHeld27) | (refine Keeps.set ?_ (by simp <;> omega) (by simp <;> omega) _)))) (fun hHeld28 => ?_)
    replace hS5 := hS5.mv2 hHeld28 (by first | omega | (simp <;> omega)) (by simp <;> omega)
    replace hS6 := hHeld28.add2 s6z0 s6c0 s6f0 s6c1 s6f1
    clear s6z0 s6c0 s6f0 s6z1 s6c1 s6f1
    clear hK K
    try clear hb
    try go_frame
    generalize hGWA22 : World.setCell (World.setCell WA21 ⟨wa.heap.size, 0, none⟩ (.int .i64 r)) ⟨wa.heap.size, 1, none⟩ (.int .i64 s) = WA22 at *
    clear hGWA22
    refine wpAnyH_done (by kernel_rfl) ?_ _
    have hHeld := hHeld28
    rotate_left 1
    exact AllReadyH.nil
    exact AllReadyH.nil
    refine AllReadyH.cons (o := ⟨some 5, _, _, _, _, _⟩) rfl (fun K hK => ?_) ?_
    have lo5 := hHeld0.1.size
    obtain ⟨⟨a5_z0, a5_c0, a5_f0⟩, ⟨a5_z1, a5_c1, a5_f1⟩, ⟨a5_z2, a5_c2, a5_f2⟩, ⟨a5_z3, a5_c3, a5_f3⟩, ⟨a5_z4, a5_c4, a5_f4⟩, ⟨a5_z5, a5_c5, a5_f5⟩, ⟨a5_z6, a5_c6, a5_f6⟩, ⟨a5_z7, a5_c7, a5_f7⟩, ⟨a5_z8, a5_c8, a5_f8⟩, ⟨a5_z9, a5_c9, a5_f9⟩, ⟨a5_z10, a5_c10, a5_f10⟩, _⟩ := hHeld0.2
    (try simp at lo5); (try simp at a5_z0); (try simp at a5_z1); (try simp at a5_z2); (try simp at a5_z3); (try simp at a5_z4); (try simp at a5_z5); (try simp at a5_z6); (try simp at a5_z7); (try simp at a5_z8); (try simp at a5_z9); (try simp at a5_z10)
    go_simp
    refine hK.out _ _ (by first | exact hHeld0.alloc _ | exact (hHeld0.alloc _).drew) (fun hHeld29 => ?_)
    first | have hS5 := newK2 hHeld29 | have hS5 := newK2d hHeld29
    clear hK K
    try clear hb
    try go_frame
    generalize hGWA23 : World.alloc wi (.cells #[.int .i64 0, .int .i64 0] 32) = WA23 at *
    clear hGWA23
    refine wpAnyH_ready (rs := [8, 19]) (by kernel_rfl) (by simp) ?_
    refine AllReadyH.cons (o := ⟨some 23, _, _, _, _, _⟩) rfl (fun K hK => ?_) ?_
    go_simp
    (first | ((with_reducible refine (S1.out _).mono ?_); rintro e wa ⟨rfl, hb⟩) | ((with_reducible refine (S2.out _).mono ?_); rintro e wb ⟨rfl, hb⟩))
    refine hK.out _ _ (hHeld29.next hb) (fun hHeld30 => ?_)
    replace hS5 := hS5.next hb
    clear hK K
    try clear hb
    try go_frame
    refine wpAnyH_ready (rs := [17, 19]) (by kernel_rfl) (by simp) ?_
    refine AllReadyH.cons (o := ⟨some 32, _, _, _, _, _⟩) rfl (fun K hK => ?_) ?_
    go_simp
    (first | ((with_reducible refine (S1.out _).mono ?_); rintro e wa ⟨rfl, hb⟩) | ((with_reducible refine (S2.out _).mono ?_); rintro e wb ⟨rfl, hb⟩))
    refine hK.out _ _ (hHeld30.next hb) (fun hHeld31 => ?_)
    replace hS5 := hS5.next hb
    clear hK K
    try clear hb
    try go_frame
    refine wpAnyH_ready (rs := [19]) (by kernel_rfl) (by simp) ?_
    refine AllReadyH.cons (o := ⟨some 6, _, _, _, _, _⟩) rfl (fun K hK => ?_) AllReadyH.nil
    have hne5_6 := hS5.2.1.1
    have lo6 := hHeld31.1.size
    obtain ⟨⟨a6_z0, a6_c0, a6_f0⟩, ⟨a6_z1, a6_c1, a6_f1⟩, ⟨a6_z2, a6_c2, a6_f2⟩, ⟨a6_z3, a6_c3, a6_f3⟩, ⟨a6_z4, a6_c4, a6_f4⟩, ⟨a6_z5, a6_c5, a6_f5⟩, ⟨a6_z6, a6_c6, a6_f6⟩, ⟨a6_z7, a6_c7, a6_f7⟩, ⟨a6_z8, a6_c8, a6_f8⟩, ⟨a6_z9, a6_c9, a6_f9⟩, ⟨a6_z10, a6_c10, a6_f10⟩, _⟩ := hHeld31.2
    (try simp at lo6); (try simp at hne5_6); (try simp at a6_z0); (try simp at a6_z1); (try simp at a6_z2); (try simp at a6_z3); (try simp at a6_z4); (try simp at a6_z5); (try simp at a6_z6); (try simp at a6_z7); (try simp at a6_z8); (try simp at a6_z9); (try simp at a6_z10)
    go_simp
    refine hK.out _ _ (by first | exact hHeld31.alloc _ | exact (hHeld31.alloc _).drew) (fun hHeld32 => ?_)
    first | replace hS5 := hS5.alloc2e hHeld32 | replace hS5 := hS5.alloc2 hHeld32
    first | have hS6 := newK2 hHeld32 | have hS6 := newK2d hHeld32
    clear hK K
    try clear hb
    try go_frame
    generalize hGWA24 : World.alloc wb (.cells #[.int .i64 0, .int .i64 0] 32) = WA24 at *
    clear hGWA24
    refine wpAnyH_ready (rs := [20]) (by kernel_rfl) (by simp) ?_
    refine AllReadyH.cons (o := ⟨none, _, _, _, _, _⟩) rfl (fun K hK => ?_) AllReadyH.nil
    obtain ⟨⟨s5z0, s5c0, s5f0⟩, ⟨s5z1, s5c1, s5f1⟩, _⟩ := hS5.2
    go_simp
    refine hK.out _ _ (by (repeat (first | (with_reducible exact hHeld32) | (refine Keeps.set ?_ (by simp <;> omega) (by simp <;> omega) _)))) (fun hHeld33 => ?_)
    replace hS6 := hS6.mv2 hHeld33 (by first | omega | (simp <;> omega)) (by simp <;> omega)
    replace hS5 := hHeld33.add2 s5z0 s5c0 s5f0 s5c1 s5f1
    clear s5z0 s5c0 s5f0 s5z1 s5c1 s5f1
    clear hK K
    try clear hb
    try go_frame
    generalize hGWA25 : World.setCell (World.setCell WA24 ⟨wi.heap.size, 0, none⟩ (.int .i64 p)) ⟨wi.heap.size, 1, none⟩ (.int .i64 q) = WA25 at *
    clear hGWA25
    refine wpAnyH_ready (rs := [21]) (by kernel_rfl) (by simp) ?_
    refine AllReadyH.cons (o := ⟨none, _, _, _, _, _⟩) rfl (fun K hK => ?_) AllReadyH.nil
    obtain ⟨⟨s6z0, s6c0, s6f0⟩, ⟨s6z1, s6c1, s6f1⟩, _⟩ := hS6.2
    go_simp
    refine hK.out _ _ (by (repeat (first | (with_reducible exact hHeld33) | (refine Keeps.set ?_ (by simp <;> omega) (by simp <;> omega) _)))) (fun hHeld34 => ?_)
    replace hS5 := hS5.mv2 hHeld34 (by first | omega | (simp <;> omega)) (by simp <;> omega)
    replace hS6 := hHeld34.add2 s6z0 s6c0 s6f0 s6c1 s6f1
    clear s6z0 s6c0 s6f0 s6z1 s6c1 s6f1
    clear hK K
    try clear hb
    try go_frame
    generalize hGWA26 : World.setCell (World.setCell WA25 ⟨wb.heap.size, 0, none⟩ (.int .i64 r)) ⟨wb.heap.size, 1, none⟩ (.int .i64 s) = WA26 at *
    clear hGWA26
    refine wpAnyH_done (by kernel_rfl) ?_ _
    have hHeld := hHeld34
    rotate_left 1
    refine AllReadyH.cons (o := ⟨some 6, _, _, _, _, _⟩) rfl (fun K hK => ?_) ?_
    have hne5_6 := hS5.2.1.1
    have lo6 := hHeld30.1.size
    obtain ⟨⟨a6_z0, a6_c0, a6_f0⟩, ⟨a6_z1, a6_c1, a6_f1⟩, ⟨a6_z2, a6_c2, a6_f2⟩, ⟨a6_z3, a6_c3, a6_f3⟩, ⟨a6_z4, a6_c4, a6_f4⟩, ⟨a6_z5, a6_c5, a6_f5⟩, ⟨a6_z6, a6_c6, a6_f6⟩, ⟨a6_z7, a6_c7, a6_f7⟩, ⟨a6_z8, a6_c8, a6_f8⟩, ⟨a6_z9, a6_c9, a6_f9⟩, ⟨a6_z10, a6_c10, a6_f10⟩, _⟩ := hHeld30.2
    (try simp at lo6); (try simp at hne5_6); (try simp at a6_z0); (try simp at a6_z1); (try simp at a6_z2); (try simp at a6_z3); (try simp at a6_z4); (try simp at a6_z5); (try simp at a6_z6); (try simp at a6_z7); (try simp at a6_z8); (try simp at a6_z9); (try simp at a6_z10)
    go_simp
    refine hK.out _ _ (by first | exact hHeld30.alloc _ | exact (hHeld30.alloc _).drew) (fun hHeld35 => ?_)
    first | replace hS5 := hS5.alloc2e hHeld35 | replace hS5 := hS5.alloc2 hHeld35
    first | have hS6 := newK2 hHeld35 | have hS6 := newK2d hHeld35
    clear hK K
    try clear hb
    try go_frame
    generalize hGWA27 : World.alloc wa (.cells #[.int .i64 0, .int .i64 0] 32) = WA27 at *
    clear hGWA27
    refine wpAnyH_ready (rs := [17]) (by kernel_rfl) (by simp) ?_
    refine AllReadyH.cons (o := ⟨some 32, _, _, _, _, _⟩) rfl (fun K hK => ?_) AllReadyH.nil
    go_simp
    (first | ((with_reducible refine (S1.out _).mono ?_); rintro e wa ⟨rfl, hb⟩) | ((with_reducible refine (S2.out _).mono ?_); rintro e wb ⟨rfl, hb⟩))
    refine hK.out _ _ (hHeld35.next hb) (fun hHeld36 => ?_)
    replace hS5 := hS5.next hb
    replace hS6 := hS6.next hb
    clear hK K
    try clear hb
    try go_frame
    refine wpAnyH_ready (rs := [20]) (by kernel_rfl) (by simp) ?_
    refine AllReadyH.cons (o := ⟨none, _, _, _, _, _⟩) rfl (fun K hK => ?_) AllReadyH.nil
    obtain ⟨⟨s5z0, s5c0, s5f0⟩, ⟨s5z1, s5c1, s5f1⟩, _⟩ := hS5.2
    go_simp
    refine hK.out _ _ (by (repeat (first | (with_reducible exact hHeld36) | (refine Keeps.set ?_ (by simp <;> omega) (by simp <;> omega) _)))) (fun hHeld37 => ?_)
    replace hS6 := hS6.mv2 hHeld37 (by first | omega | (simp <;> omega)) (by simp <;> omega)
    replace hS5 := hHeld37.add2 s5z0 s5c0 s5f0 s5c1 s5f1
    clear s5z0 s5c0 s5f0 s5z1 s5c1 s5f1
    clear hK K
    try clear hb
    try go_frame
    generalize hGWA28 : World.setCell (World.setCell wb ⟨wi.heap.size, 0, none⟩ (.int .i64 p)) ⟨wi.heap.size, 1, none⟩ (.int .i64 q) = WA28 at *
    clear hGWA28
    refine wpAnyH_ready (rs := [21]) (by kernel_rfl) (by simp) ?_
    refine AllReadyH.cons (o := ⟨none, _, _, _, _, _⟩) rfl (fun K hK => ?_) AllReadyH.nil
    obtain ⟨⟨s6z0, s6c0, s6f0⟩, ⟨s6z1, s6c1, s6f1⟩, _⟩ := hS6.2
    go_simp
    refine hK.out _ _ (by (repeat (first | (with_reducible exact hHeld37) | (refine Keeps.set ?_ (by simp <;> omega) (by simp <;> omega) _)))) (fun hHeld38 => ?_)
    replace hS5 := hS5.mv2 hHeld38 (by first | omega | (simp <;> omega)) (by simp <;> omega)
    replace hS6 := hHeld38.add2 s6z0 s6c0 s6f0 s6c1 s6f1
    clear s6z0 s6c0 s6f0 s6z1 s6c1 s6f1
    clear hK K
    try clear hb
    try go_frame
    generalize hGWA29 : World.setCell (World.setCell WA28 ⟨wa.heap.size, 0, none⟩ (.int .i64 r)) ⟨wa.heap.size, 1, none⟩ (.int .i64 s) = WA29 at *
    clear hGWA29
    refine wpAnyH_done (by kernel_rfl) ?_ _
    have hHeld := hHeld38
    rotate_left 1
    exact AllReadyH.nil
    refine AllReadyH.cons (o := ⟨some 6, _, _, _, _, _⟩) rfl (fun K hK => ?_) ?_
    have hne5_6 := hS5.2.1.1
    have lo6 := hHeld29.1.size
    obtain ⟨⟨a6_z0, a6_c0, a6_f0⟩, ⟨a6_z1, a6_c1, a6_f1⟩, ⟨a6_z2, a6_c2, a6_f2⟩, ⟨a6_z3, a6_c3, a6_f3⟩, ⟨a6_z4, a6_c4, a6_f4⟩, ⟨a6_z5, a6_c5, a6_f5⟩, ⟨a6_z6, a6_c6, a6_f6⟩, ⟨a6_z7, a6_c7, a6_f7⟩, ⟨a6_z8, a6_c8, a6_f8⟩, ⟨a6_z9, a6_c9, a6_f9⟩, ⟨a6_z10, a6_c10, a6_f10⟩, _⟩ := hHeld29.2
    (try simp at lo6); (try simp at hne5_6); (try simp at a6_z0); (try simp at a6_z1); (try simp at a6_z2); (try simp at a6_z3); (try simp at a6_z4); (try simp at a6_z5); (try simp at a6_z6); (try simp at a6_z7); (try simp at a6_z8); (try simp at a6_z9); (try simp at a6_z10)
    go_simp
    refine hK.out _ _ (by first | exact hHeld29.alloc _ | exact (hHeld29.alloc _).drew) (fun hHeld39 => ?_)
    first | replace hS5 := hS5.alloc2e hHeld39 | replace hS5 := hS5.alloc2 hHeld39
    first | have hS6 := newK2 hHeld39 | have hS6 := newK2d hHeld39
    clear hK K
    try clear hb
    try go_frame
    generalize hGWA30 : World.alloc WA23 (.cells #[.int .i64 0, .int .i64 0] 32) = WA30 at *
    clear hGWA30
    refine wpAnyH_ready (rs := [8]) (by kernel_rfl) (by simp) ?_
    refine AllReadyH.cons (o := ⟨some 23, _, _, _, _, _⟩) rfl (fun K hK => ?_) AllReadyH.nil
    go_simp
    (first | ((with_reducible refine (S1.out _).mono ?_); rintro e wa ⟨rfl, hb⟩) | ((with_reducible refine (S2.out _).mono ?_); rintro e wb ⟨rfl, hb⟩))
    refine hK.out _ _ (hHeld39.next hb) (fun hHeld40 => ?_)
    replace hS5 := hS5.next hb
    replace hS6 := hS6.next hb
    clear hK K
    try clear hb
    try go_frame
    refine wpAnyH_ready (rs := [17]) (by kernel_rfl) (by simp) ?_
    refine AllReadyH.cons (o := ⟨some 32, _, _, _, _, _⟩) rfl (fun K hK => ?_) AllReadyH.nil
    go_simp
    (first | ((with_reducible refine (S1.out _).mono ?_); rintro e wa ⟨rfl, hb⟩) | ((with_reducible refine (S2.out _).mono ?_); rintro e wb ⟨rfl, hb⟩))
    refine hK.out _ _ (hHeld40.next hb) (fun hHeld41 => ?_)
    replace hS5 := hS5.next hb
    replace hS6 := hS6.next hb
    clear hK K
    try clear hb
    try go_frame
    refine wpAnyH_ready (rs := [20]) (by kernel_rfl) (by simp) ?_
    refine AllReadyH.cons (o := ⟨none, _, _, _, _, _⟩) rfl (fun K hK => ?_) AllReadyH.nil
    obtain ⟨⟨s5z0, s5c0, s5f0⟩, ⟨s5z1, s5c1, s5f1⟩, _⟩ := hS5.2
    go_simp
    refine hK.out _ _ (by (repeat (first | (with_reducible exact hHeld41) | (refine Keeps.set ?_ (by simp <;> omega) (by simp <;> omega) _)))) (fun hHeld42 => ?_)
    replace hS6 := hS6.mv2 hHeld42 (by first | omega | (simp <;> omega)) (by simp <;> omega)
    replace hS5 := hHeld42.add2 s5z0 s5c0 s5f0 s5c1 s5f1
    clear s5z0 s5c0 s5f0 s5z1 s5c1 s5f1
    clear hK K
    try clear hb
    try go_frame
    generalize hGWA31 : World.setCell (World.setCell wb ⟨wi.heap.size, 0, none⟩ (.int .i64 p)) ⟨wi.heap.size, 1, none⟩ (.int .i64 q) = WA31 at *
    clear hGWA31
    refine wpAnyH_ready (rs := [21]) (by kernel_rfl) (by simp) ?_
    refine AllReadyH.cons (o := ⟨none, _, _, _, _, _⟩) rfl (fun K hK => ?_) AllReadyH.nil
    obtain ⟨⟨s6z0, s6c0, s6f0⟩, ⟨s6z1, s6c1, s6f1⟩, _⟩ := hS6.2
    go_simp
    refine hK.out _ _ (by (repeat (first | (with_reducible exact hHeld42) | (refine Keeps.set ?_ (by simp <;> omega) (by simp <;> omega) _)))) (fun hHeld43 => ?_)
    replace hS5 := hS5.mv2 hHeld43 (by first | omega | (simp <;> omega)) (by simp <;> omega)
    replace hS6 := hHeld43.add2 s6z0 s6c0 s6f0 s6c1 s6f1
    clear s6z0 s6c0 s6f0 s6z1 s6c1 s6f1
    clear hK K
    try clear hb
    try go_frame
    generalize hGWA32 : World.setCell (World.setCell WA31 ⟨WA23.heap.size, 0, none⟩ (.int .i64 r)) ⟨WA23.heap.size, 1, none⟩ (.int .i64 s) = WA32 at *
    clear hGWA32
    refine wpAnyH_done (by kernel_rfl) ?_ _
    have hHeld := hHeld43
    rotate_left 1
    exact AllReadyH.nil
    refine AllReadyH.cons (o := ⟨some 6, _, _, _, _, _⟩) rfl (fun K hK => ?_) ?_
    have lo6 := hHeld0.1.size
    obtain ⟨⟨a6_z0, a6_c0, a6_f0⟩, ⟨a6_z1, a6_c1, a6_f1⟩, ⟨a6_z2, a6_c2, a6_f2⟩, ⟨a6_z3, a6_c3, a6_f3⟩, ⟨a6_z4, a6_c4, a6_f4⟩, ⟨a6_z5, a6_c5, a6_f5⟩, ⟨a6_z6, a6_c6, a6_f6⟩, ⟨a6_z7, a6_c7, a6_f7⟩, ⟨a6_z8, a6_c8, a6_f8⟩, ⟨a6_z9, a6_c9, a6_f9⟩, ⟨a6_z10, a6_c10, a6_f10⟩, _⟩ := hHeld0.2
    (try simp at lo6); (try simp at a6_z0); (try simp at a6_z1); (try simp at a6_z2); (try simp at a6_z3); (try simp at a6_z4); (try simp at a6_z5); (try simp at a6_z6); (try simp at a6_z7); (try simp at a6_z8); (try simp at a6_z9); (try simp at a6_z10)
    go_simp
    refine hK.out _ _ (by first | exact hHeld0.alloc _ | exact (hHeld0.alloc _).drew) (fun hHeld44 => ?_)
    first | have hS6 := newK2 hHeld44 | have hS6 := newK2d hHeld44
    clear hK K
    try clear hb
    try go_frame
    generalize hGWA33 : World.alloc wi (.cells #[.int .i64 0, .int .i64 0] 32) = WA33 at *
    clear hGWA33
    refine wpAnyH_ready (rs := [8, 18]) (by kernel_rfl) (by simp) ?_
    refine AllReadyH.cons (o := ⟨some 23, _, _, _, _, _⟩) rfl (fun K hK => ?_) ?_
    go_simp
    (first | ((with_reducible refine (S1.out _).mono ?_); rintro e wa ⟨rfl, hb⟩) | ((with_reducible refine (S2.out _).mono ?_); rintro e wb ⟨rfl, hb⟩))
    refine hK.out _ _ (hHeld44.next hb) (fun hHeld45 => ?_)
    replace hS6 := hS6.next hb
    clear hK K
    try clear hb
    try go_frame
    refine wpAnyH_ready (rs := [17, 18]) (by kernel_rfl) (by simp) ?_
    refine AllReadyH.cons (o := ⟨some 32, _, _, _, _, _⟩) rfl (fun K hK => ?_) ?_
    go_simp
    (first | ((with_reducible refine (S1.out _).mono ?_); rintro e wa ⟨rfl, hb⟩) | ((with_reducible refine (S2.out _).mono ?_); rintro e wb ⟨rfl, hb⟩))
    refine hK.out _ _ (hHeld45.next hb) (fun hHeld46 => ?_)
    replace hS6 := hS6.next hb
    clear hK K
    try clear hb
    try go_frame
    refine wpAnyH_ready (rs := [18]) (by kernel_rfl) (by simp) ?_
    refine AllReadyH.cons (o := ⟨some 5, _, _, _, _, _⟩) rfl (fun K hK => ?_) AllReadyH.nil
    have hne6_5 := hS6.2.1.1
    have lo5 := hHeld46.1.size
    obtain ⟨⟨a5_z0, a5_c0, a5_f0⟩, ⟨a5_z1, a5_c1, a5_f1⟩, ⟨a5_z2, a5_c2, a5_f2⟩, ⟨a5_z3, a5_c3, a5_f3⟩, ⟨a5_z4, a5_c4, a5_f4⟩, ⟨a5_z5, a5_c5, a5_f5⟩, ⟨a5_z6, a5_c6, a5_f6⟩, ⟨a5_z7, a5_c7, a5_f7⟩, ⟨a5_z8, a5_c8, a5_f8⟩, ⟨a5_z9, a5_c9, a5_f9⟩, ⟨a5_z10, a5_c10, a5_f10⟩, _⟩ := hHeld46.2
    (try simp at lo5); (try simp at hne6_5); (try simp at a5_z0); (try simp at a5_z1); (try simp at a5_z2); (try simp at a5_z3); (try simp at a5_z4); (try simp at a5_z5); (try simp at a5_z6); (try simp at a5_z7); (try simp at a5_z8); (try simp at a5_z9); (try simp at a5_z10)
    go_simp
    refine hK.out _ _ (by first | exact hHeld46.alloc _ | exact (hHeld46.alloc _).drew) (fun hHeld47 => ?_)
    first | replace hS6 := hS6.alloc2e hHeld47 | replace hS6 := hS6.alloc2 hHeld47
    first | have hS5 := newK2 hHeld47 | have hS5 := newK2d hHeld47
    clear hK K
    try clear hb
    try go_frame
    generalize hGWA34 : World.alloc wb (.cells #[.int .i64 0, .int .i64 0] 32) = WA34 at *
    clear hGWA34
    refine wpAnyH_ready (rs := [20]) (by kernel_rfl) (by simp) ?_
    refine AllReadyH.cons (o := ⟨none, _, _, _, _, _⟩) rfl (fun K hK => ?_) AllReadyH.nil
    obtain ⟨⟨s5z0, s5c0, s5f0⟩, ⟨s5z1, s5c1, s5f1⟩, _⟩ := hS5.2
    go_simp
    refine hK.out _ _ (by (repeat (first | (with_reducible exact hHeld47) | (refine Keeps.set ?_ (by simp <;> omega) (by simp <;> omega) _)))) (fun hHeld48 => ?_)
    replace hS6 := hS6.mv2 hHeld48 (by first | omega | (simp <;> omega)) (by simp <;> omega)
    replace hS5 := hHeld48.add2 s5z0 s5c0 s5f0 s5c1 s5f1
    clear s5z0 s5c0 s5f0 s5z1 s5c1 s5f1
    clear hK K
    try clear hb
    try go_frame
    generalize hGWA35 : World.setCell (World.setCell WA34 ⟨wb.heap.size, 0, none⟩ (.int .i64 p)) ⟨wb.heap.size, 1, none⟩ (.int .i64 q) = WA35 at *
    clear hGWA35
    refine wpAnyH_ready (rs := [21]) (by kernel_rfl) (by simp) ?_
    refine AllReadyH.cons (o := ⟨none, _, _, _, _, _⟩) rfl (fun K hK => ?_) AllReadyH.nil
    obtain ⟨⟨s6z0, s6c0, s6f0⟩, ⟨s6z1, s6c1, s6f1⟩, _⟩ := hS6.2
    go_simp
    refine hK.out _ _ (by (repeat (first | (with_reducible exact hHeld48) | (refine Keeps.set ?_ (by simp <;> omega) (by simp <;> omega) _)))) (fun hHeld49 => ?_)
    replace hS5 := hS5.mv2 hHeld49 (by first | omega | (simp <;> omega)) (by simp <;> omega)
    replace hS6 := hHeld49.add2 s6z0 s6c0 s6f0 s6c1 s6f1
    clear s6z0 s6c0 s6f0 s6z1 s6c1 s6f1
    clear hK K
    try clear hb
    try go_frame
    generalize hGWA36 : World.setCell (World.setCell WA35 ⟨wi.heap.size, 0, none⟩ (.int .i64 r)) ⟨wi.heap.size, 1, none⟩ (.int .i64 s) = WA36 at *
    clear hGWA36
    refine wpAnyH_done (by kernel_rfl) ?_ _
    have hHeld := hHeld49
    rotate_left 1
    refine AllReadyH.cons (o := ⟨some 5, _, _, _, _, _⟩) rfl (fun K hK => ?_) ?_
    have hne6_5 := hS6.2.1.1
    have lo5 := hHeld45.1.size
    obtain ⟨⟨a5_z0, a5_c0, a5_f0⟩, ⟨a5_z1, a5_c1, a5_f1⟩, ⟨a5_z2, a5_c2, a5_f2⟩, ⟨a5_z3, a5_c3, a5_f3⟩, ⟨a5_z4, a5_c4, a5_f4⟩, ⟨a5_z5, a5_c5, a5_f5⟩, ⟨a5_z6, a5_c6, a5_f6⟩, ⟨a5_z7, a5_c7, a5_f7⟩, ⟨a5_z8, a5_c8, a5_f8⟩, ⟨a5_z9, a5_c9, a5_f9⟩, ⟨a5_z10, a5_c10, a5_f10⟩, _⟩ := hHeld45.2
    (try simp at lo5); (try simp at hne6_5); (try simp at a5_z0); (try simp at a5_z1); (try simp at a5_z2); (try simp at a5_z3); (try simp at a5_z4); (try simp at a5_z5); (try simp at a5_z6); (try simp at a5_z7); (try simp at a5_z8); (try simp at a5_z9); (try simp at a5_z10)
    go_simp
    refine hK.out _ _ (by first | exact hHeld45.alloc _ | exact (hHeld45.alloc _).drew) (fun hHeld50 => ?_)
    first | replace hS6 := hS6.alloc2e hHeld50 | replace hS6 := hS6.alloc2 hHeld50
    first | have hS5 := newK2 hHeld50 | have hS5 := newK2d hHeld50
    clear hK K
    try clear hb
    try go_frame
    generalize hGWA37 : World.alloc wa (.cells #[.int .i64 0, .int .i64 0] 32) = WA37 at *
    clear hGWA37
    refine wpAnyH_ready (rs := [17]) (by kernel_rfl) (by simp) ?_
    refine AllReadyH.cons (o := ⟨some 32, _, _, _, _, _⟩) rfl (fun K hK => ?_) AllReadyH.nil
    go_simp
    (first | ((with_reducible refine (S1.out _).mono ?_); rintro e wa ⟨rfl, hb⟩) | ((with_reducible refine (S2.out _).mono ?_); rintro e wb ⟨rfl, hb⟩))
    refine hK.out _ _ (hHeld50.next hb) (fun hHeld51 => ?_)
    replace hS6 := hS6.next hb
    replace hS5 := hS5.next hb
    clear hK K
    try clear hb
    try go_frame
    refine wpAnyH_ready (rs := [20]) (by kernel_rfl) (by simp) ?_
    refine AllReadyH.cons (o := ⟨none, _, _, _, _, _⟩) rfl (fun K hK => ?_) AllReadyH.nil
    obtain ⟨⟨s5z0, s5c0, s5f0⟩, ⟨s5z1, s5c1, s5f1⟩, _⟩ := hS5.2
    go_simp
    refine hK.out _ _ (by (repeat (first | (with_reducible exact hHeld51) | (refine Keeps.set ?_ (by simp <;> omega) (by simp <;> omega) _)))) (fun hHeld52 => ?_)
    replace hS6 := hS6.mv2 hHeld52 (by first | omega | (simp <;> omega)) (by simp <;> omega)
    replace hS5 := hHeld52.add2 s5z0 s5c0 s5f0 s5c1 s5f1
    clear s5z0 s5c0 s5f0 s5z1 s5c1 s5f1
    clear hK K
    try clear hb
    try go_frame
    generalize hGWA38 : World.setCell (World.setCell wb ⟨wa.heap.size, 0, none⟩ (.int .i64 p)) ⟨wa.heap.size, 1, none⟩ (.int .i64 q) = WA38 at *
    clear hGWA38
    refine wpAnyH_ready (rs := [21]) (by kernel_rfl) (by simp) ?_
    refine AllReadyH.cons (o := ⟨none, _, _, _, _, _⟩) rfl (fun K hK => ?_) AllReadyH.nil
    obtain ⟨⟨s6z0, s6c0, s6f0⟩, ⟨s6z1, s6c1, s6f1⟩, _⟩ := hS6.2
    go_simp
    refine hK.out _ _ (by (repeat (first | (with_reducible exact hHeld52) | (refine Keeps.set ?_ (by simp <;> omega) (by simp <;> omega) _)))) (fun hHeld53 => ?_)
    replace hS5 := hS5.mv2 hHeld53 (by first | omega | (simp <;> omega)) (by simp <;> omega)
    replace hS6 := hHeld53.add2 s6z0 s6c0 s6f0 s6c1 s6f1
    clear s6z0 s6c0 s6f0 s6z1 s6c1 s6f1
    clear hK K
    try clear hb
    try go_frame
    generalize hGWA39 : World.setCell (World.setCell WA38 ⟨wi.heap.size, 0, none⟩ (.int .i64 r)) ⟨wi.heap.size, 1, none⟩ (.int .i64 s) = WA39 at *
    clear hGWA39
    refine wpAnyH_done (by kernel_rfl) ?_ _
    have hHeld := hHeld53
    rotate_left 1
    exact AllReadyH.nil
    refine AllReadyH.cons (o := ⟨some 5, _, _, _, _, _⟩) rfl (fun K hK => ?_) ?_
    have hne6_5 := hS6.2.1.1
    have lo5 := hHeld44.1.size
    obtain ⟨⟨a5_z0, a5_c0, a5_f0⟩, ⟨a5_z1, a5_c1, a5_f1⟩, ⟨a5_z2, a5_c2, a5_f2⟩, ⟨a5_z3, a5_c3, a5_f3⟩, ⟨a5_z4, a5_c4, a5_f4⟩, ⟨a5_z5, a5_c5, a5_f5⟩, ⟨a5_z6, a5_c6, a5_f6⟩, ⟨a5_z7, a5_c7, a5_f7⟩, ⟨a5_z8, a5_c8, a5_f8⟩, ⟨a5_z9, a5_c9, a5_f9⟩, ⟨a5_z10, a5_c10, a5_f10⟩, _⟩ := hHeld44.2
    (try simp at lo5); (try simp at hne6_5); (try simp at a5_z0); (try simp at a5_z1); (try simp at a5_z2); (try simp at a5_z3); (try simp at a5_z4); (try simp at a5_z5); (try simp at a5_z6); (try simp at a5_z7); (try simp at a5_z8); (try simp at a5_z9); (try simp at a5_z10)
    go_simp
    refine hK.out _ _ (by first | exact hHeld44.alloc _ | exact (hHeld44.alloc _).drew) (fun hHeld54 => ?_)
    first | replace hS6 := hS6.alloc2e hHeld54 | replace hS6 := hS6.alloc2 hHeld54
    first | have hS5 := newK2 hHeld54 | have hS5 := newK2d hHeld54
    clear hK K
    try clear hb
    try go_frame
    generalize hGWA40 : World.alloc WA33 (.cells #[.int .i64 0, .int .i64 0] 32) = WA40 at *
    clear hGWA40
    refine wpAnyH_ready (rs := [8]) (by kernel_rfl) (by simp) ?_
    refine AllReadyH.cons (o := ⟨some 23, _, _, _, _, _⟩) rfl (fun K hK => ?_) AllReadyH.nil
    go_simp
    (first | ((with_reducible refine (S1.out _).mono ?_); rintro e wa ⟨rfl, hb⟩) | ((with_reducible refine (S2.out _).mono ?_); rintro e wb ⟨rfl, hb⟩))
    refine hK.out _ _ (hHeld54.next hb) (fun hHeld55 => ?_)
    replace hS6 := hS6.next hb
    replace hS5 := hS5.next hb
    clear hK K
    try clear hb
    try go_frame
    refine wpAnyH_ready (rs := [17]) (by kernel_rfl) (by simp) ?_
    refine AllReadyH.cons (o := ⟨some 32, _, _, _, _, _⟩) rfl (fun K hK => ?_) AllReadyH.nil
    go_simp
    (first | ((with_reducible refine (S1.out _).mono ?_); rintro e wa ⟨rfl, hb⟩) | ((with_reducible refine (S2.out _).mono ?_); rintro e wb ⟨rfl, hb⟩))
    refine hK.out _ _ (hHeld55.next hb) (fun hHeld56 => ?_)
    replace hS6 := hS6.next hb
    replace hS5 := hS5.next hb
    clear hK K
    try clear hb
    try go_frame
    refine wpAnyH_ready (rs := [20]) (by kernel_rfl) (by simp) ?_
    refine AllReadyH.cons (o := ⟨none, _, _, _, _, _⟩) rfl (fun K hK => ?_) AllReadyH.nil
    obtain ⟨⟨s5z0, s5c0, s5f0⟩, ⟨s5z1, s5c1, s5f1⟩, _⟩ := hS5.2
    go_simp
    refine hK.out _ _ (by (repeat (first | (with_reducible exact hHeld56) | (refine Keeps.set ?_ (by simp <;> omega) (by simp <;> omega) _)))) (fun hHeld57 => ?_)
    replace hS6 := hS6.mv2 hHeld57 (by first | omega | (simp <;> omega)) (by simp <;> omega)
    replace hS5 := hHeld57.add2 s5z0 s5c0 s5f0 s5c1 s5f1
    clear s5z0 s5c0 s5f0 s5z1 s5c1 s5f1
    clear hK K
    try clear hb
    try go_frame
    generalize hGWA41 : World.setCell (World.setCell wb ⟨WA33.heap.size, 0, none⟩ (.int .i64 p)) ⟨WA33.heap.size, 1, none⟩ (.int .i64 q) = WA41 at *
    clear hGWA41
    refine wpAnyH_ready (rs := [21]) (by kernel_rfl) (by simp) ?_
    refine AllReadyH.cons (o := ⟨none, _, _, _, _, _⟩) rfl (fun K hK => ?_) AllReadyH.nil
    obtain ⟨⟨s6z0, s6c0, s6f0⟩, ⟨s6z1, s6c1, s6f1⟩, _⟩ := hS6.2
    go_simp
    refine hK.out _ _ (by (repeat (first | (with_reducible exact hHeld57) | (refine Keeps.set ?_ (by simp <;> omega) (by simp <;> omega) _)))) (fun hHeld58 => ?_)
    replace hS5 := hS5.mv2 hHeld58 (by first | omega | (simp <;> omega)) (by simp <;> omega)
    replace hS6 := hHeld58.add2 s6z0 s6c0 s6f0 s6c1 s6f1
    clear s6z0 s6c0 s6f0 s6z1 s6c1 s6f1
    clear hK K
    try clear hb
    try go_frame
    generalize hGWA42 : World.setCell (World.setCell WA41 ⟨wi.heap.size, 0, none⟩ (.int .i64 r)) ⟨wi.heap.size, 1, none⟩ (.int .i64 s) = WA42 at *
    clear hGWA42
    refine wpAnyH_done (by kernel_rfl) ?_ _
    have hHeld := hHeld58
    rotate_left 1
    exact AllReadyH.nil
    exact AllReadyH.nil
    all_goals
      go_wp2_with fail
      go_meet
      case rel => exact ⟨_, _, rfl, rfl, by omega, by omega, hS6.1, hS5.2.1, hS5.2.2.1, hS6.2.1, hS6.2.2.1, hS6.2.2.2.2.2.2.2.2⟩
  case rest =>
    obtain ⟨g, g', rfl, rfl, hg, hg', hK⟩ := hcut
    have hX := HT.out.next hK.1
    have hne : g ≠ T := by omega
    have hne' : g' ≠ T := by omega
    obtain ⟨⟨kz0, kc0, kf0⟩, ⟨kz1, kc1, kf1⟩, hK4⟩ := hK.2
    obtain ⟨⟨jz0, jc0, jf0⟩, ⟨jz1, jc1, jf1⟩, ⟨jz2, jc2, jf2⟩, ⟨jz3, jc3, jf3⟩, ⟨jz4, jc4, jf4⟩, ⟨jz5, jc5, jf5⟩, _⟩ := hX
    have HK := Lib.hid hK
    have HK4 := Lib.hid hK4
    clear hK hK4 hHs S1 S2
    simp only at jc0 jc1 jc2 jc3 jc4 jc5
    go_upto_region 3 with (fail)
    go_cut [] (fun wx => Near T wc wx ∧ DrAt wx T ⟨t, v, p2, q2, c, d⟩)
    case first =>
      refine region_keepsXB (w0 := wc) (s := T) (L := [(g, 0, .int .i64 p), (g, 1, .int .i64 q), (T, 0, .int .i64 t), (T, 1, .int .i64 v), (T, 4, .int .i64 c), (T, 5, .int .i64 d)]) (M := [(T, 2, .int .i64 a), (T, 3, .int .i64 b)]) (by kernel_rfl) ⟨Near.refl _ _, ⟨kz0, kc0, kf0⟩, ⟨kz1, kc1, kf1⟩, ⟨jz0, jc0, jf0⟩, ⟨jz1, jc1, jf1⟩, ⟨jz4, jc4, jf4⟩, ⟨jz5, jc5, jf5⟩, trivial⟩ ⟨Near.refl _ _, ⟨jz2, jc2, jf2⟩, ⟨jz3, jc3, jf3⟩, trivial⟩ (fun hHeld0 hT0 => ?_)
      refine wpAnyH_take (i := 0) (oi := ⟨some 33, _, _, _, _, _⟩) (v := ?_) rfl (by kernel_rfl) (by kernel_rfl) (by kernel_rfl) (fun _ _ _ h => h) (Or.inl ⟨by rfl, ?_⟩) (by assumption) ?_
      rotate_left
      · intro wq hSw; go_simp; (try with_reducible rfl)
      try go_frame
      refine wpAnyH_take (i := 1) (oi := ⟨some 34, _, _, _, _, _⟩) (v := ?_) rfl (by kernel_rfl) (by kernel_rfl) (by kernel_rfl) (fun _ _ _ h => h) (Or.inl ⟨by rfl, ?_⟩) (by assumption) ?_
      rotate_left
      · intro wq hSw; go_simp; (try with_reducible rfl)
      try go_frame
      refine wpAnyH_take (i := 2) (oi := ⟨some 35, _, _, _, _, _⟩) (v := ?_) rfl (by kernel_rfl) (by kernel_rfl) (by kernel_rfl) (fun _ _ _ h => h) (Or.inl ⟨by rfl, ?_⟩) (by assumption) ?_
      rotate_left
      · intro wq hSw; go_simp; (try with_reducible rfl)
      try go_frame
      refine wpAnyH_take (i := 3) (oi := ⟨some 36, _, _, _, _, _⟩) (v := ?_) rfl (by kernel_rfl) (by kernel_rfl) (by kernel_rfl) (fun _ _ _ h => h) (Or.inl ⟨by rfl, ?_⟩) (by assumption) ?_
      rotate_left
      · intro wq hSw; go_simp; (try with_reducible rfl)
      try go_frame
      refine wpAnyH_take (i := 4) (oi := ⟨some 37, _, _, _, _, _⟩) (v := ?_) rfl (by kernel_rfl) (by kernel_rfl) (by kernel_rfl) (fun _ _ _ h => h) (Or.inl ⟨by rfl, ?_⟩) (by assumption) ?_
      rotate_left
      · intro wq hSw; go_simp; (try with_reducible rfl)
      try go_frame
      refine wpAnyH_take (i := 6) (oi := ⟨some 39, _, _, _, _, _⟩) (v := ?_) rfl (by kernel_rfl) (by kernel_rfl) (by kernel_rfl) (fun _ _ _ h => h) (Or.inl ⟨by rfl, ?_⟩) (by assumption) ?_
      rotate_left
      · intro wq hSw; obtain ⟨⟨qz0, qc0, qf0⟩, ⟨qz1, qc1, qf1⟩, ⟨qz2, qc2, qf2⟩, ⟨qz3, qc3, qf3⟩, ⟨qz4, qc4, qf4⟩, ⟨qz5, qc5, qf5⟩, _⟩ := hSw.2; go_simp; (try with_reducible rfl)
      try go_frame
      refine wpAnyH_take (i := 9) (oi := ⟨some 42, _, _, _, _, _⟩) (v := ?_) rfl (by kernel_rfl) (by kernel_rfl) (by kernel_rfl) (fun _ _ _ h => h) (Or.inl ⟨by rfl, ?_⟩) (by assumption) ?_
      rotate_left
      · intro wq hSw; go_simp; (try with_reducible rfl)
      try go_frame
      refine wpAnyH_take (i := 10) (oi := ⟨some 43, _, _, _, _, _⟩) (v := ?_) rfl (by kernel_rfl) (by kernel_rfl) (by kernel_rfl) (fun _ _ _ h => h) (Or.inl ⟨by rfl, ?_⟩) (by assumption) ?_
      rotate_left
      · intro wq hSw; go_simp; (try with_reducible rfl)
      try go_frame
      refine wpAnyH_ready (rs := [5]) (by kernel_rfl) (by simp) ?_
      refine AllReadyH.cons (o := ⟨some 38, _, _, _, _, _⟩) rfl (fun K hK => ?_) AllReadyH.nil
      obtain ⟨⟨kz0, kc0, kf0⟩, ⟨kz1, kc1, kf1⟩, ⟨kz2, kc2, kf2⟩, ⟨kz3, kc3, kf3⟩, ⟨kz4, kc4, kf4⟩, ⟨kz5, kc5, kf5⟩, _⟩ := hHeld0.2
      obtain ⟨⟨t0z0, t0c0, t0f0⟩, ⟨t0z1, t0c1, t0f1⟩, _⟩ := hT0.2
      go_simp
      refine hK.out _ _ (by first | exact hHeld0 | (first | exact hHeld | (refine ⟨by go_grown, ?_⟩; simp [Cells, go_sem]; done))) (fun hHeld1 => ?_)
      clear hK K
      try clear hb
      try go_frame
      refine wpAnyH_ready (rs := [7]) (by kernel_rfl) (by simp) ?_
      refine AllReadyH.cons (o := ⟨some 40, _, _, _, _, _⟩) rfl (fun K hK => ?_) AllReadyH.nil
      go_simp
      ((with_reducible refine Calls.mono (R1.out _) ?_); rintro e w5 ⟨rfl, hb⟩)
      refine hK.out _ _ (hHeld1.next hb) (fun hHeld2 => ?_)
      replace hT0 := hT0.next hb
      clear hK K
      try clear hb
      try go_frame
      refine wpAnyH_take (i := 8) (oi := ⟨some 41, _, _, _, _, _⟩) (v := ?_) rfl (by kernel_rfl) (by kernel_rfl) (by kernel_rfl) (fun _ _ _ h => h) (Or.inl ⟨by rfl, ?_⟩) (by assumption) ?_
      rotate_left
      · intro wq hSw; go_simp; (try with_reducible rfl)
      try go_frame
      refine wpAnyH_take (i := 11) (oi := ⟨some 44, _, _, _, _, _⟩) (v := ?_) rfl (by kernel_rfl) (by kernel_rfl) (by kernel_rfl) (fun _ _ _ h => h) (Or.inl ⟨by rfl, ?_⟩) (by assumption) ?_
      rotate_left
      · intro wq hSw; go_simp; (try with_reducible rfl)
      try go_frame
      refine wpAnyH_ready (rs := [12]) (by kernel_rfl) (by simp) ?_
      refine AllReadyH.cons (o := ⟨none, _, _, _, _, _⟩) rfl (fun K hK => ?_) AllReadyH.nil
      obtain ⟨⟨t0z0, t0c0, t0f0⟩, ⟨t0z1, t0c1, t0f1⟩, _⟩ := hT0.2; (try simp at t0z0); (try simp at t0c0); (try simp at t0f0); (try simp at t0z1); (try simp at t0c1); (try simp at t0f1)
      go_simp
      refine hK.out _ _ (by first | exact hHeld2.alloc _ | (repeat (first | (with_reducible exact hHeld2) | (with_reducible exact (KeepsX.undrewR hHeld2)) | (refine KeepsX.set ?_ (by simp <;> omega) rfl (by simp <;> omega) _) | (with_reducible refine KeepsX.drew ?_)))) (fun hHeld3 => ?_)
      clear hK K
      try clear hb
      try go_frame
      refine wpAnyH_done (by kernel_rfl) ?_ _
      have hHeld := hHeld3
      obtain ⟨⟨kz0, kc0, kf0⟩, ⟨kz1, kc1, kf1⟩, ⟨kz2, kc2, kf2⟩, ⟨kz3, kc3, kf3⟩, ⟨kz4, kc4, kf4⟩, ⟨kz5, kc5, kf5⟩, _⟩ := hHeld.2
      all_goals
        go_wp2_with fail
        go_meet
        case rel =>
          obtain ⟨hn, _, _, m0, m1, m4, m5, _⟩ := hHeld
          exact ⟨hn, m0, m1, ⟨by simpa [World.setCell] using t0z0, off_cell (by simp) (World.cell?_setCell_same' _ _ _ (by rw [t0c0]; rfl)), by simp only [World.frozen?_setCell]; exact t0f0⟩, ⟨by simpa [World.setCell] using t0z1, World.cell?_setCell_same' _ _ _ (by rw [off_cell (by simp) t0c1]; rfl), by simp only [World.frozen?_setCell]; exact t0f1⟩, m4, m5, trivial⟩
    case rest =>
      obtain ⟨hN, hX⟩ := hcut
      clear kz0 kc0 kf0 kz1 kc1 kf1 jz0 jc0 jf0 jz1 jc1 jf1 jz2 jc2 jf2 jz3 jc3 jf3 jz4 jc4 jf4 jz5 jc5 jf5 R1
      have hK4 := HK4.out.near hN (by simp; omega)
      obtain ⟨⟨kz0, kc0, kf0⟩, ⟨kz1, kc1, kf1⟩, hK5⟩ := hK4
      have HN := Lib.hid (near_trans (Near.of HK.out.1) hN)
      obtain ⟨⟨jz0, jc0, jf0⟩, ⟨jz1, jc1, jf1⟩, ⟨jz2, jc2, jf2⟩, ⟨jz3, jc3, jf3⟩, ⟨jz4, jc4, jf4⟩, ⟨jz5, jc5, jf5⟩, _⟩ := hX
      replace HK4 := Lib.hid hK5
      clear hK5 hN HK
      simp only at jc0 jc1 jc2 jc3 jc4 jc5
      go_upto_region 4 with (fail)
      go_cut [] (fun wx => Near T wc wx ∧ DrAt wx T ⟨t, v, p2, q2, r2, s2⟩)
      case first =>
        refine region_keepsXB (w0 := wc) (s := T) (L := [(g', 0, .int .i64 r), (g', 1, .int .i64 s), (T, 0, .int .i64 t), (T, 1, .int .i64 v), (T, 2, .int .i64 p2), (T, 3, .int .i64 q2)]) (M := [(T, 4, .int .i64 c), (T, 5, .int .i64 d)]) (by kernel_rfl) ⟨Near.refl _ _, ⟨kz0, kc0, kf0⟩, ⟨kz1, kc1, kf1⟩, ⟨jz0, jc0, jf0⟩, ⟨jz1, jc1, jf1⟩, ⟨jz2, jc2, jf2⟩, ⟨jz3, jc3, jf3⟩, trivial⟩ ⟨Near.refl _ _, ⟨jz4, jc4, jf4⟩, ⟨jz5, jc5, jf5⟩, trivial⟩ (fun hHeld0 hT0 => ?_)
        refine wpAnyH_take (i := 0) (oi := ⟨some 45, _, _, _, _, _⟩) (v := ?_) rfl (by kernel_rfl) (by kernel_rfl) (by kernel_rfl) (fun _ _ _ h => h) (Or.inl ⟨by rfl, ?_⟩) (by assumption) ?_
        rotate_left
        · intro wq hSw; go_simp; (try with_reducible rfl)
        try go_frame
        refine wpAnyH_take (i := 1) (oi := ⟨some 46, _, _, _, _, _⟩) (v := ?_) rfl (by kernel_rfl) (by kernel_rfl) (by kernel_rfl) (fun _ _ _ h => h) (Or.inl ⟨by rfl, ?_⟩) (by assumption) ?_
        rotate_left
        · intro wq hSw; go_simp; (try with_reducible rfl)
        try go_frame
        refine wpAnyH_take (i := 2) (oi := ⟨some 47, _, _, _, _, _⟩) (v := ?_) rfl (by kernel_rfl) (by kernel_rfl) (by kernel_rfl) (fun _ _ _ h => h) (Or.inl ⟨by rfl, ?_⟩) (by assumption) ?_
        rotate_left
        · intro wq hSw; go_simp; (try with_reducible rfl)
        try go_frame
        refine wpAnyH_take (i := 3) (oi := ⟨some 48, _, _, _, _, _⟩) (v := ?_) rfl (by kernel_rfl) (by kernel_rfl) (by kernel_rfl) (fun _ _ _ h => h) (Or.inl ⟨by rfl, ?_⟩) (by assumption) ?_
        rotate_left
        · intro wq hSw; go_simp; (try with_reducible rfl)
        try go_frame
        refine wpAnyH_take (i := 4) (oi := ⟨some 49, _, _, _, _, _⟩) (v := ?_) rfl (by kernel_rfl) (by kernel_rfl) (by kernel_rfl) (fun _ _ _ h => h) (Or.inl ⟨by rfl, ?_⟩) (by assumption) ?_
        rotate_left
        · intro wq hSw; go_simp; (try with_reducible rfl)
        try go_frame
        refine wpAnyH_take (i := 6) (oi := ⟨some 51, _, _, _, _, _⟩) (v := ?_) rfl (by kernel_rfl) (by kernel_rfl) (by kernel_rfl) (fun _ _ _ h => h) (Or.inl ⟨by rfl, ?_⟩) (by assumption) ?_
        rotate_left
        · intro wq hSw; obtain ⟨⟨qz0, qc0, qf0⟩, ⟨qz1, qc1, qf1⟩, ⟨qz2, qc2, qf2⟩, ⟨qz3, qc3, qf3⟩, ⟨qz4, qc4, qf4⟩, ⟨qz5, qc5, qf5⟩, _⟩ := hSw.2; go_simp; (try with_reducible rfl)
        try go_frame
        refine wpAnyH_take (i := 9) (oi := ⟨some 54, _, _, _, _, _⟩) (v := ?_) rfl (by kernel_rfl) (by kernel_rfl) (by kernel_rfl) (fun _ _ _ h => h) (Or.inl ⟨by rfl, ?_⟩) (by assumption) ?_
        rotate_left
        · intro wq hSw; go_simp; (try with_reducible rfl)
        try go_frame
        refine wpAnyH_take (i := 10) (oi := ⟨some 55, _, _, _, _, _⟩) (v := ?_) rfl (by kernel_rfl) (by kernel_rfl) (by kernel_rfl) (fun _ _ _ h => h) (Or.inl ⟨by rfl, ?_⟩) (by assumption) ?_
        rotate_left
        · intro wq hSw; go_simp; (try with_reducible rfl)
        try go_frame
        refine wpAnyH_ready (rs := [5]) (by kernel_rfl) (by simp) ?_
        refine AllReadyH.cons (o := ⟨some 50, _, _, _, _, _⟩) rfl (fun K hK => ?_) AllReadyH.nil
        obtain ⟨⟨kz0, kc0, kf0⟩, ⟨kz1, kc1, kf1⟩, ⟨kz2, kc2, kf2⟩, ⟨kz3, kc3, kf3⟩, ⟨kz4, kc4, kf4⟩, ⟨kz5, kc5, kf5⟩, _⟩ := hHeld0.2
        obtain ⟨⟨t0z0, t0c0, t0f0⟩, ⟨t0z1, t0c1, t0f1⟩, _⟩ := hT0.2
        go_simp
        refine hK.out _ _ (by first | exact hHeld0 | (first | exact hHeld | (refine ⟨by go_grown, ?_⟩; simp [Cells, go_sem]; done))) (fun hHeld1 => ?_)
        clear hK K
        try clear hb
        try go_frame
        refine wpAnyH_ready (rs := [7]) (by kernel_rfl) (by simp) ?_
        refine AllReadyH.cons (o := ⟨some 52, _, _, _, _, _⟩) rfl (fun K hK => ?_) AllReadyH.nil
        go_simp
        ((with_reducible refine Calls.mono (R2.out _) ?_); rintro e w5 ⟨rfl, hb⟩)
        refine hK.out _ _ (hHeld1.next hb) (fun hHeld2 => ?_)
        replace hT0 := hT0.next hb
        clear hK K
        try clear hb
        try go_frame
        refine wpAnyH_take (i := 8) (oi := ⟨some 53, _, _, _, _, _⟩) (v := ?_) rfl (by kernel_rfl) (by kernel_rfl) (by kernel_rfl) (fun _ _ _ h => h) (Or.inl ⟨by rfl, ?_⟩) (by assumption) ?_
        rotate_left
        · intro wq hSw; go_simp; (try with_reducible rfl)
        try go_frame
        refine wpAnyH_take (i := 11) (oi := ⟨some 56, _, _, _, _, _⟩) (v := ?_) rfl (by kernel_rfl) (by kernel_rfl) (by kernel_rfl) (fun _ _ _ h => h) (Or.inl ⟨by rfl, ?_⟩) (by assumption) ?_
        rotate_left
        · intro wq hSw; go_simp; (try with_reducible rfl)
        try go_frame
        refine wpAnyH_ready (rs := [12]) (by kernel_rfl) (by simp) ?_
        refine AllReadyH.cons (o := ⟨none, _, _, _, _, _⟩) rfl (fun K hK => ?_) AllReadyH.nil
        obtain ⟨⟨t0z0, t0c0, t0f0⟩, ⟨t0z1, t0c1, t0f1⟩, _⟩ := hT0.2; (try simp at t0z0); (try simp at t0c0); (try simp at t0f0); (try simp at t0z1); (try simp at t0c1); (try simp at t0f1)
        go_simp
        refine hK.out _ _ (by first | exact hHeld2.alloc _ | (repeat (first | (with_reducible exact hHeld2) | (with_reducible exact (KeepsX.undrewR hHeld2)) | (refine KeepsX.set ?_ (by simp <;> omega) rfl (by simp <;> omega) _) | (with_reducible refine KeepsX.drew ?_)))) (fun hHeld3 => ?_)
        clear hK K
        try clear hb
        try go_frame
        refine wpAnyH_done (by kernel_rfl) ?_ _
        have hHeld := hHeld3
        obtain ⟨⟨kz0, kc0, kf0⟩, ⟨kz1, kc1, kf1⟩, ⟨kz2, kc2, kf2⟩, ⟨kz3, kc3, kf3⟩, ⟨kz4, kc4, kf4⟩, ⟨kz5, kc5, kf5⟩, _⟩ := hHeld.2
        all_goals
          go_wp2_with fail
          go_meet
          case rel =>
            obtain ⟨hn, _, _, m0, m1, m2, m3, _⟩ := hHeld
            exact ⟨hn, m0, m1, m2, m3, ⟨by simpa [World.setCell] using t0z0, off_cell (by simp) (World.cell?_setCell_same' _ _ _ (by rw [t0c0]; rfl)), by simp only [World.frozen?_setCell]; exact t0f0⟩, ⟨by simpa [World.setCell] using t0z1, World.cell?_setCell_same' _ _ _ (by rw [off_cell (by simp) t0c1]; rfl), by simp only [World.frozen?_setCell]; exact t0f1⟩, trivial⟩
      case rest =>
        obtain ⟨hN, hX⟩ := hcut
        clear kz0 kc0 kf0 kz1 kc1 kf1 jz0 jc0 jf0 jz1 jc1 jf1 jz2 jc2 jf2 jz3 jc3 jf3 jz4 jc4 jf4 jz5 jc5 jf5 R2
        have hK4 := HK4.out.near hN (by simp; omega)
        replace HN := Lib.hid (near_trans HN.out hN)
        have HX := Lib.hid hX
        obtain ⟨⟨jz0, jc0, jf0⟩, ⟨jz1, jc1, jf1⟩, ⟨jz2, jc2, jf2⟩, ⟨jz3, jc3, jf3⟩, ⟨jz4, jc4, jf4⟩, ⟨jz5, jc5, jf5⟩, _⟩ := hX
        obtain ⟨⟨kz0, kc0, kf0⟩, ⟨kz1, kc1, kf1⟩, ⟨kz2, kc2, kf2⟩, ⟨kz3, kc3, kf3⟩, ⟨kz4, kc4, kf4⟩, ⟨kz5, kc5, kf5⟩, _⟩ := hK4
        simp only at jc0 jc1 jc2 jc3 jc4 jc5
        clear hN
        go_wp2_with fail
        obtain ⟨d0, d1, d2, d3, d4, d5⟩ := set6 (W := wc) (B := w.heap.size + 1) (u0 := .int .i64 t) (u1 := .int .i64 v) (u2 := .int .i64 p2) (u3 := .int .i64 q2) (u4 := .int .i64 r2) (u5 := .int .i64 s2) kc0 kc1 kc2 kc3 kc4 kc5
        have hN6 := near_put6 (B := w.heap.size + 1) HN.out (by omega) (.int .i64 t) (.int .i64 v) (.int .i64 p2) (.int .i64 q2) (.int .i64 r2) (.int .i64 s2)
        have hX6 := cells_put6 (B := w.heap.size + 1) HX.out (by simp; omega) (.int .i64 t) (.int .i64 v) (.int .i64 p2) (.int .i64 q2) (.int .i64 r2) (.int .i64 s2)
        refine bodyPost_ret (v := drV ⟨t, v, p2, q2, r2, s2⟩) ?_ rfl ⟨rfl, hN6, hX6⟩
        unfold put6 at d0 d1 d2 d3 d4 d5
        simp [results, Tryz.results68, go_sem, d0, d1, d2, d3, d4, d5]
/-- A door takes whatever band. -/
theorem take_any (T : Nat) (x : Dr) (b : Bd) (hx : DrOk x) (hb : BdOk b) (w : World) (hT : DrAt w T x) :
    Calls Tryz.prog 68 #[.pointer (some ⟨T, 0, none⟩), bandV b] w (Took w T (stepD x b)) := by
  obtain ⟨h1, h2, h3⟩ := band_ok hb
  unfold stepD
  by_cases g : x.t < b.t
  · rw [if_pos g]
    obtain ⟨p1, _, _⟩ := sl_ok hx.v h2 hx.t h1 g
    obtain ⟨q1, _, _⟩ := sl_ok hx.v h3 hx.t h1 g
    exact take_yes T x.t x.v x.a x.b x.c x.d b.t b.lo b.hi _ _ _ _ _ _ _ _ g w hT (fun W => slope_any x.t x.v b.t b.lo hx.v h2 hx.t h1 g W) (fun W => slope_any x.t x.v b.t b.hi hx.v h3 hx.t h1 g W) _ _ _ _
      (fun W => rising_any _ _ _ _ (by simp [slopesB, hx.lo, p1]) W) (fun W => rising_any _ _ _ _ (by simp [slopesB, hx.hi, q1]) W)
  · rw [if_neg g]
    exact take_no T x.t x.v x.a x.b x.c x.d b.t b.lo b.hi g w hT
end Go.Proofs.YtoephkglpbophaaGreat.P9
