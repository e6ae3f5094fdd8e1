/-
  The document's own answers for layer 9: Fit. Conditions: those written at each fact.
-/
import Derived.Maps.RangeWalk
import Derived.Test.YtjioljgojfcckaaGreatSwY
import Derived.Test.YtjioljgojfcckaaGreatSlopes
namespace Go.Proofs.YtjioljgojfcckaaGreat.P9
open Go.RowKit Go.Shelf Go.Proofs.YtjioljgojfcckaaGreat.P8

theorem flat_open (b : Bd) : flatN (open0 b) = 0 ∧ flatE (open0 b) = 1 := by simp [flatN, flatE, open0]
set_option maxRecDepth 100000 in
set_option maxHeartbeats 8000000 in
theorem refFit_any (b0 : Bd) (l : List Bd) (hl : (b0 :: l).length ≤ 1000000) (hR : ∀ b ∈ b0 :: l, BdOk b) (hT : ∀ b ∈ l, b0.t < b.t) (v : Value) (w : World) (h : ReadsD w v (b0 :: l)) :
    Calls Tryz.prog 13 #[v] w (Ret w (lnV (mid b0) 0 (flatN (allD (b0 :: l))) (flatE (allD (b0 :: l))))) := by
  have h' := h
  obtain ⟨A, c, rfl, _, _⟩ := h
  have HG := Lib.hid (fun W (hb' : Below w.heap.size w W) => (show Calls Tryz.prog 32 #[.slice A (b0 :: l).length c] W (Ret W (.int .i64 (mid b0))) from by
    obtain ⟨t, lo, hi'⟩ := b0
    exact refHinge_any t lo hi' l (hR _ (List.mem_cons_self ..)) _ W (h'.below hb')))
  have hHs : Keeps w [(w.heap.size + 1, 0, .int .i64 0), (w.heap.size + 1, 1, .int .i64 1), (w.heap.size, 0, .int .i64 0), (w.heap.size, 1, .int .i64 0), (w.heap.size, 2, .int .i64 0), (w.heap.size, 3, .int .i64 0)] ((w.alloc (.cells #[.int .i64 0, .int .i64 0, .int .i64 0, .int .i64 0] 23)).alloc (.cells #[.int .i64 0, .int .i64 1] 49)) := ⟨(below_alloc w _).alloc (by simp) _, by simp [Cells, go_sem]⟩
  by_cases g : l = []
  · subst g
    rw [allD_one, (flat_open b0).1, (flat_open b0).2]
    clear h' hR hT hl
    simp only [List.length_cons, List.length_nil] at HG ⊢
    generalize mid b0 = m at *
    go_enter Tryz.func13, Tryz.ntmps13
    go_upto_region 5 with (fail)
    refine region_keepsB (w0 := w) (L := [(w.heap.size + 1, 0, .int .i64 0), (w.heap.size + 1, 1, .int .i64 1)]) (M := [(w.heap.size, 0, .int .i64 0), (w.heap.size, 1, .int .i64 0), (w.heap.size, 2, .int .i64 0), (w.heap.size, 3, .int .i64 0)]) (by kernel_rfl) ⟨hHs.1, hHs.2.1, hHs.2.2.1, trivial⟩ ⟨hHs.1, hHs.2.2.2⟩ (fun hHeld0 hT0 => ?_)
    refine wpAnyH_take (i := 0) (oi := ⟨some 18, _, _, _, _, _⟩) (v := ?_) rfl (by kernel_rfl) (by kernel_rfl) (by kernel_rfl) (fun _ _ _ h => h) (Or.inl ⟨by rfl, ?_⟩) (by assumption) ?_
    rotate_left
    · intro wq hSw; go_simp; (try with_reducible rfl)
    try go_frame
    refine wpAnyH_take (i := 2) (oi := ⟨some 20, _, _, _, _, _⟩) (v := ?_) rfl (by kernel_rfl) (by kernel_rfl) (by kernel_rfl) (fun _ _ _ h => h) (Or.inl ⟨by rfl, ?_⟩) (by assumption) ?_
    rotate_left
    · intro wq hSw; go_simp; (try with_reducible rfl)
    try go_frame
    refine wpAnyH_take (i := 3) (oi := ⟨some 21, _, _, _, _, _⟩) (v := ?_) rfl (by kernel_rfl) (by kernel_rfl) (by kernel_rfl) (fun _ _ _ h => h) (Or.inl ⟨by rfl, ?_⟩) (by assumption) ?_
    rotate_left
    · intro wq hSw; obtain ⟨⟨qz0, qc0, qf0⟩, ⟨qz1, qc1, qf1⟩, _⟩ := hSw.2; go_simp; (try with_reducible rfl)
    try go_frame
    refine wpAnyH_take (i := 4) (oi := ⟨some 22, _, _, _, _, _⟩) (v := ?_) rfl (by kernel_rfl) (by kernel_rfl) (by kernel_rfl) (fun _ _ _ h => h) (Or.inl ⟨by rfl, ?_⟩) (by assumption) ?_
    rotate_left
    · intro wq hSw; go_simp; (try with_reducible rfl)
    try go_frame
    refine wpAnyH_take (i := 5) (oi := ⟨some 23, _, _, _, _, _⟩) (v := ?_) rfl (by kernel_rfl) (by kernel_rfl) (by kernel_rfl) (fun _ _ _ h => h) (Or.inl ⟨by rfl, ?_⟩) (by assumption) ?_
    rotate_left
    · intro wq hSw; obtain ⟨⟨qz0, qc0, qf0⟩, ⟨qz1, qc1, qf1⟩, _⟩ := hSw.2; go_simp; (try with_reducible rfl)
    try go_frame
    refine wpAnyH_ready (rs := [1]) (by kernel_rfl) (by simp) ?_
    refine AllReadyH.cons (o := ⟨some 19, _, _, _, _, _⟩) rfl (fun K hK => ?_) AllReadyH.nil
    go_simp
    ((with_reducible refine Calls.mono (HG.out _ (bel9 (L := [(w.heap.size + 1, 0, .int .i64 0), (w.heap.size + 1, 1, .int .i64 1)]) (by assumption))) ?_); rintro e w5 ⟨rfl, hb⟩)
    refine hK.out _ _ (hHeld0.next hb) (fun hHeld1 => ?_)
    replace hT0 := hT0.next hb
    clear hK K
    try clear hb
    try go_frame
    refine wpAnyH_take (i := 6) (oi := ⟨some 24, _, _, _, _, _⟩) (v := ?_) rfl (by kernel_rfl) (by kernel_rfl) (by kernel_rfl) (fun _ _ _ h => h) (Or.inl ⟨by rfl, ?_⟩) (by assumption) ?_
    rotate_left
    · intro wq hSw; go_simp; (try with_reducible rfl)
    try go_frame
    refine wpAnyH_ready (rs := [7]) (by kernel_rfl) (by simp) ?_
    refine AllReadyH.cons (o := ⟨none, _, _, _, _, _⟩) rfl (fun K hK => ?_) AllReadyH.nil
    obtain ⟨⟨t0z0, t0c0, t0f0⟩, ⟨t0z1, t0c1, t0f1⟩, ⟨t0z2, t0c2, t0f2⟩, ⟨t0z3, t0c3, t0f3⟩, _⟩ := hT0.2; (try simp at t0z0); (try simp at t0c0); (try simp at t0f0); (try simp at t0z1); (try simp at t0c1); (try simp at t0f1); (try simp at t0z2); (try simp at t0c2); (try simp at t0f2); (try simp at t0z3); (try simp at t0c3); (try simp at t0f3)
    go_simp
    refine hK.out _ _ (by first | exact hHeld1.alloc _ | (repeat (first | (with_reducible exact hHeld1) | (with_reducible exact (Keeps.undrewR hHeld1)) | (refine Keeps.set ?_ (by simp <;> omega) (by simp <;> omega) _) | (with_reducible refine Keeps.drew ?_)))) (fun hHeld2 => ?_)
    clear hK K
    try clear hb
    try go_frame
    refine wpAnyH_done (by kernel_rfl) ?_ _
    have hHeld := hHeld2
    obtain ⟨⟨kz0, kc0, kf0⟩, ⟨kz1, kc1, kf1⟩, _⟩ := hHeld.2
    all_goals
      go_wp2_with fail
      obtain ⟨d0, d1, d2, d3⟩ := set4 (W := w5) (B := w.heap.size) (u0 := .int .i64 m) (u1 := .int .i64 0) (u2 := .int .i64 0) (u3 := .int .i64 1) t0c0 t0c1 t0c2 t0c3
      refine bodyPost_ret (v := lnV m 0 0 1) (by simp [results, Tryz.results13, go_sem, d0, d1, d2, d3]) rfl ?_
      exact ⟨rfl, hHeld.1⟩
  · have hne : 2 ≤ (b0 :: l).length := by
      cases l with
      | nil => exact absurd rfl g
      | cons a k => simp
    have DO := Lib.hid (fun W (hb' : Below w.heap.size w W) => refDoor_any b0 l hl hne hR hT (.slice A (b0 :: l).length c) W (h'.below hb'))
    have hx := allD_ok hR
    have NE := Lib.hid (fun W => refNearest_any _ _ _ _ _ _ hx.lo hx.hi (flat_door hx) W)
    have i1 : (((b0 :: l).length : Nat) : Int) > 1 := by omega
    clear hx h' hR hT hl g hne
    generalize flatN (allD (b0 :: l)) = n at *
    generalize flatE (allD (b0 :: l)) = d at *
    generalize allD (b0 :: l) = x at *
    generalize (b0 :: l).length = len at *
    generalize mid b0 = m at *
    obtain ⟨_, _, a, b, c', d'⟩ := x
    simp only at DO NE
    go_enter Tryz.func13, Tryz.ntmps13
    go_wp2_with fail
    refine (DO.out _ hHs.1).mono ?_
    rintro e w1 ⟨rfl, hb1⟩
    have h1 := ((hHs.next hb1).alloc (.cells #[.int .i64 a, .int .i64 b] 49)).alloc (.cells #[.int .i64 c', .int .i64 d'] 49)
    go_wp2_with fail
    refine (NE.out _).mono ?_
    rintro e w2 ⟨rfl, hb2⟩
    have h2 := h1.next hb2
    clear h1 hb1 hb2 DO NE hHs
    obtain ⟨⟨kz0, kc0, kf0⟩, ⟨kz1, kc1, kf1⟩, _⟩ := h2.2
    have h9 := set_pair (u0 := .int .i64 n) (u1 := .int .i64 d) (B := w.heap.size + 1) (M := [(w.heap.size, 0, .int .i64 0), (w.heap.size, 1, .int .i64 0), (w.heap.size, 2, .int .i64 0), (w.heap.size, 3, .int .i64 0)]) (a0 := .int .i64 0) (a1 := .int .i64 1) h2 (by omega) (by simp)
    go_upto_region 5 with (fail)
    clear kz0 kc0 kf0 kz1 kc1 kf1 h2
    refine region_keepsB (w0 := w) (L := [(w.heap.size + 1, 0, .int .i64 n), (w.heap.size + 1, 1, .int .i64 d)]) (M := [(w.heap.size, 0, .int .i64 0), (w.heap.size, 1, .int .i64 0), (w.heap.size, 2, .int .i64 0), (w.heap.size, 3, .int .i64 0)]) (by kernel_rfl) ⟨h9.1, h9.2.1, h9.2.2.1, trivial⟩ ⟨h9.1, h9.2.2.2⟩ (fun hHeld0 hT0 => ?_)
    refine wpAnyH_take (i := 0) (oi := ⟨some 18, _, _, _, _, _⟩) (v := ?_) rfl (by kernel_rfl) (by kernel_rfl) (by kernel_rfl) (fun _ _ _ h => h) (Or.inl ⟨by rfl, ?_⟩) (by assumption) ?_
    rotate_left
    · intro wq hSw; go_simp; (try with_reducible rfl)
    try go_frame
    refine wpAnyH_take (i := 2) (oi := ⟨some 20, _, _, _, _, _⟩) (v := ?_) rfl (by kernel_rfl) (by kernel_rfl) (by kernel_rfl) (fun _ _ _ h => h) (Or.inl ⟨by rfl, ?_⟩) (by assumption) ?_
    rotate_left
    · intro wq hSw; go_simp; (try with_reducible rfl)
    try go_frame
    refine wpAnyH_take (i := 3) (oi := ⟨some 21, _, _, _, _, _⟩) (v := ?_) rfl (by kernel_rfl) (by kernel_rfl) (by kernel_rfl) (fun _ _ _ h => h) (Or.inl ⟨by rfl, ?_⟩) (by assumption) ?_
    rotate_left
    · intro wq hSw; obtain ⟨⟨qz0, qc0, qf0⟩, ⟨qz1, qc1, qf1⟩, _⟩ := hSw.2; go_simp; (try with_reducible rfl)
    try go_frame
    refine wpAnyH_take (i := 4) (oi := ⟨some 22, _, _, _, _, _⟩) (v := ?_) rfl (by kernel_rfl) (by kernel_rfl) (by kernel_rfl) (fun _ _ _ h => h) (Or.inl ⟨by rfl, ?_⟩) (by assumption) ?_
    rotate_left
    · intro wq hSw; go_simp; (try with_reducible rfl)
    try go_frame
    refine wpAnyH_take (i := 5) (oi := ⟨some 23, _, _, _, _, _⟩) (v := ?_) rfl (by kernel_rfl) (by kernel_rfl) (by kernel_rfl) (fun _ _ _ h => h) (Or.inl ⟨by rfl, ?_⟩) (by assumption) ?_
    rotate_left
    · intro wq hSw; obtain ⟨⟨qz0, qc0, qf0⟩, ⟨qz1, qc1, qf1⟩, _⟩ := hSw.2; go_simp; (try with_reducible rfl)
    try go_frame
    refine wpAnyH_ready (rs := [1]) (by kernel_rfl) (by simp) ?_
    refine AllReadyH.cons (o := ⟨some 19, _, _, _, _, _⟩) rfl (fun K hK => ?_) AllReadyH.nil
    go_simp
    ((with_reducible refine Calls.mono (HG.out _ (bel9 (L := [(w.heap.size + 1, 0, .int .i64 n), (w.heap.size + 1, 1, .int .i64 d)]) (by assumption))) ?_); rintro e w5 ⟨rfl, hb⟩)
    refine hK.out _ _ (hHeld0.next hb) (fun hHeld1 => ?_)
    replace hT0 := hT0.next hb
    clear hK K
    try clear hb
    try go_frame
    refine wpAnyH_take (i := 6) (oi := ⟨some 24, _, _, _, _, _⟩) (v := ?_) rfl (by kernel_rfl) (by kernel_rfl) (by kernel_rfl) (fun _ _ _ h => h) (Or.inl ⟨by rfl, ?_⟩) (by assumption) ?_
    rotate_left
    · intro wq hSw; go_simp; (try with_reducible rfl)
    try go_frame
    refine wpAnyH_ready (rs := [7]) (by kernel_rfl) (by simp) ?_
    refine AllReadyH.cons (o := ⟨none, _, _, _, _, _⟩) rfl (fun K hK => ?_) AllReadyH.nil
    obtain ⟨⟨t0z0, t0c0, t0f0⟩, ⟨t0z1, t0c1, t0f1⟩, ⟨t0z2, t0c2, t0f2⟩, ⟨t0z3, t0c3, t0f3⟩, _⟩ := hT0.2; (try simp at t0z0); (try simp at t0c0); (try simp at t0f0); (try simp at t0z1); (try simp at t0c1); (try simp at t0f1); (try simp at t0z2); (try simp at t0c2); (try simp at t0f2); (try simp at t0z3); (try simp at t0c3); (try simp at t0f3)
    go_simp
    refine hK.out _ _ (by first | exact hHeld1.alloc _ | (repeat (first | (with_reducible exact hHeld1) | (with_reducible exact (Keeps.undrewR hHeld1)) | (refine Keeps.set ?_ (by simp <;> omega) (by simp <;> omega) _) | (with_reducible refine Keeps.drew ?_)))) (fun hHeld2 => ?_)
    clear hK K
    try clear hb
    try go_frame
    refine wpAnyH_done (by kernel_rfl) ?_ _
    have hHeld := hHeld2
    obtain ⟨⟨kz0, kc0, kf0⟩, ⟨kz1, kc1, kf1⟩, _⟩ := hHeld.2
    all_goals
      go_wp2_with fail
      obtain ⟨d0, d1, d2, d3⟩ := set4 (W := w5) (B := w.heap.size) (u0 := .int .i64 m) (u1 := .int .i64 0) (u2 := .int .i64 n) (u3 := .int .i64 d) t0c0 t0c1 t0c2 t0c3
      refine bodyPost_ret (v := lnV m 0 n d) (by simp [results, Tryz.results13, go_sem, d0, d1, d2, d3]) rfl ?_
      exact ⟨rfl, hHeld.1⟩
end Go.Proofs.YtjioljgojfcckaaGreat.P9
