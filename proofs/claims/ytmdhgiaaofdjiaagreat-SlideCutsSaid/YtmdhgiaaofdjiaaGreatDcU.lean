/-
  The document's own answers for layer 10: how long the first part is. Conditions: those written at each fact.
-/
import Derived.Test.YtmdhgiaaofdjiaaGreatDcL
import Derived.Test.YtmdhgiaaofdjiaaGreatSlM
namespace Go.Proofs.YtmdhgiaaofdjiaaGreat.P10
open Go.RowKit Go.Shelf Go.Proofs.YtmdhgiaaofdjiaaGreat.P8

theorem ahead_of {l : List Bd} (hR : RowOk l) {k : Nat} {b : Bd} (hx : l[k]? = some b) : BdOk b ∧ ∀ x ∈ l.take k, BdOk x ∧ x.t < b.t := by
  have e : l = l.take k ++ b :: l.drop (k + 1) := by rw [← drop_of hx, List.take_append_drop]
  exact row_ahead (h := l.take k) (l := l.drop (k + 1)) (by rw [← e]; exact hR)
/-- The first k bands let slopes, and so do fewer. -/
def OpenN (l : List Bd) (k : Nat) : Prop := ∀ i, i < k → shutS (allS (l.take (i + 1))) = false
theorem open_next {l : List Bd} {k : Nat} (h : OpenN l k) (h2 : shutS (allS (l.take (k + 1))) = false) : OpenN l (k + 1) := by
  intro i hi
  by_cases g : i = k
  · subst g; exact h2
  · exact h i (by omega)
set_option maxRecDepth 100000 in
set_option maxHeartbeats 4000000 in
theorem refLongest_any (l : List Bd) (hl : l.length ≤ 1000) (hR : RowOk l) (v : Value) (w : World) (h : ReadsD w v l) : Calls Tryz.prog 35 #[v] w (Ret w (.int .i64 (firN l))) := by
  have hr := h
  obtain ⟨A, c, rfl, hc, hk⟩ := h
  have HK := Lib.hid hk
  have HRR := Lib.hid hR
  have LT := Lib.hid (fun (b : Bd) (hb : BdOk b) (s : Sl) (hs : StOk s) (k : Nat) (hk : k ≤ l.length) (hA : ∀ x ∈ l.take k, BdOk x ∧ x.t < b.t) W (hW : Below w.heap.size w W) => refLet_any b hb s hs (l.take k) (by rw [List.length_take]; omega) hA (.slice A k c) W ((hr.below hW).front k hk))
  obtain ⟨N, hN⟩ : ∃ N, N = firN l := ⟨_, rfl⟩
  have HN := Lib.hid hN
  rw [← hN]
  clear hr hR hk hN
  go_enter Tryz.func35, Tryz.ntmps35
  have hH0 : Hid (Keeps w [(w.heap.size, 0, .int .i64 (-4611688217450643456)), (w.heap.size, 1, .int .i64 1), (w.heap.size + 1, 0, .int .i64 4611688217450643456), (w.heap.size + 1, 1, .int .i64 1)]
      ((w.alloc (.cells #[.int .i64 (-4611688217450643456), .int .i64 1] 45)).alloc (.cells #[.int .i64 4611688217450643456, .int .i64 1] 45))) :=
    Lib.hid ⟨((Below.refl _ w).alloc (Nat.le_refl _) _).alloc (by simp) _, by simp [Cells, go_sem]⟩
  go_wp2_with fail
  go_loopw [5] (fun i wr => ∃ (k : Nat) (x : Sl), i = .int .i64 k ∧ k ≤ l.length ∧ Hid (x = allS (l.take k) ∧ StOk x ∧ OpenN l k) ∧ Hid (Keeps w [(w.heap.size, 0, .int .i64 x.a), (w.heap.size, 1, .int .i64 x.b), (w.heap.size + 1, 0, .int .i64 x.c), (w.heap.size + 1, 1, .int .i64 x.d)] wr)) (fun i _ => l.length - (intOf i).toNat)
  case atStart => exact ⟨0, every0, rfl, Nat.zero_le _, Lib.hid ⟨rfl, every_ok, fun i hi => absurd hi (Nat.not_lt_zero _)⟩, hH0⟩
  case round =>
    obtain ⟨k, x, rfl, hkl, hX, hB⟩ := hrel
    clear hH0
    by_cases gk : k < l.length
    · obtain ⟨⟨t, lo, hi⟩, hx⟩ : ∃ s, l[k]? = some s := ⟨_, List.getElem?_eq_getElem gk⟩
      obtain ⟨bb, off, rfl, hbw, hc1, hc2, hc3⟩ := HK.out k _ hx
      have HC := Lib.hid (And.intro hc1 (And.intro hc2 hc3))
      have i1 : (k : Int) < (l.length : Int) := by omega
      have i0 : (0 : Int) ≤ (k : Int) := by omega
      have i2 : (k : Int) ≤ (c : Int) := by omega
      obtain ⟨hbo, hah⟩ := ahead_of HRR.out hx
      have LC := Lib.hid (fun W hW => LT.out ⟨t, lo, hi⟩ hbo x hX.out.2.1 k (by omega) hah W hW)
      have hz : StOk (letS ⟨t, lo, hi⟩ (l.take k) x) := let_ok hbo hah hX.out.2.1
      have eA : letS ⟨t, lo, hi⟩ (l.take k) x = allS (l.take (k + 1)) := by rw [all_take hx, ← hX.out.1]
      have HO := Lib.hid hX.out.2.2
      obtain ⟨z, hzz⟩ : ∃ z, z = letS ⟨t, lo, hi⟩ (l.take k) x := ⟨_, rfl⟩
      rw [← hzz] at LC hz eA
      have HZ := Lib.hid (And.intro eA hz)
      have LL := Lib.hid (fun W => refSlopeLess_any z.c z.d z.a z.b hz.hi hz.lo W)
      have ES : lq z.c z.d z.a z.b = shutS z := rfl
      rw [ES] at LL
      obtain ⟨x0, x1, x2, x3⟩ := x
      obtain ⟨z0, z1, z2, z3⟩ := z
      simp only at hB LC LL
      have hBT := Lib.hid hB.out
      clear hx hc1 hc2 hc3 hbo hah hX hzz hz eA ES hB
      go_upto_region 4 with (fail)
      go_cut [] (fun wx => Hid (Keeps w [(w.heap.size, 0, .int .i64 z0), (w.heap.size, 1, .int .i64 z1), (w.heap.size + 1, 0, .int .i64 z2), (w.heap.size + 1, 1, .int .i64 z3)] wx))
      case first =>
        have hHs := hBT.out
        have hP := Lib.hid (show Keeps w [] wr from ⟨hHs.1, trivial⟩)
        refine region_keepsB (w0 := w) (L := []) (M := [(w.heap.size, 0, .int .i64 x0), (w.heap.size, 1, .int .i64 x1), (w.heap.size + 1, 0, .int .i64 x2), (w.heap.size + 1, 1, .int .i64 x3)]) (by kernel_rfl) hP.out hHs (fun hHeld0 hT0 => ?_)
        refine wpAnyH_take (i := 0) (oi := ⟨some 13, _, _, _, _, _⟩) (v := ?_) rfl (by kernel_rfl) (by kernel_rfl) (by kernel_rfl) (fun _ _ _ h => h) (Or.inl ⟨by rfl, ?_⟩) (by assumption) ?_
        rotate_left
        · intro wq hSw; go_simp; (try with_reducible rfl)
        try simp only [Act.put, List.setIfInBounds_toArray, List.set_cons_zero, List.set_cons_succ]
        refine wpAnyH_take (i := 1) (oi := ⟨some 14, _, _, _, _, _⟩) (v := ?_) rfl (by kernel_rfl) (by kernel_rfl) (by kernel_rfl) (fun _ _ _ h => h) (Or.inl ⟨by rfl, ?_⟩) (by assumption) ?_
        rotate_left
        · intro wq hSw; go_simp; (try with_reducible rfl)
        try simp only [Act.put, List.setIfInBounds_toArray, List.set_cons_zero, List.set_cons_succ]
        refine wpAnyH_take (i := 2) (oi := ⟨some 15, _, _, _, _, _⟩) (v := ?_) rfl (by kernel_rfl) (by kernel_rfl) (by kernel_rfl) (fun _ _ _ h => h) (Or.inl ⟨by rfl, ?_⟩) (by assumption) ?_
        rotate_left
        · intro wq hSw; go_simp; (try with_reducible rfl)
        try simp only [Act.put, List.setIfInBounds_toArray, List.set_cons_zero, List.set_cons_succ]
        refine wpAnyH_take (i := 3) (oi := ⟨some 16, _, _, _, _, _⟩) (v := ?_) rfl (by kernel_rfl) (by kernel_rfl) (by kernel_rfl) (fun _ _ _ h => h) (Or.inl ⟨by rfl, ?_⟩) (by assumption) ?_
        rotate_left
        · intro wq hSw; go_simp; (try with_reducible rfl)
        try simp only [Act.put, List.setIfInBounds_toArray, List.set_cons_zero, List.set_cons_succ]
        refine wpAnyH_take (i := 4) (oi := ⟨some 17, _, _, _, _, _⟩) (v := ?_) rfl (by kernel_rfl) (by kernel_rfl) (by kernel_rfl) (fun _ _ _ h => h) (Or.inl ⟨by rfl, ?_⟩) (by assumption) ?_
        rotate_left
        · intro wq hSw; go_simp; (try with_reducible rfl)
        try simp only [Act.put, List.setIfInBounds_toArray, List.set_cons_zero, List.set_cons_succ]
        refine wpAnyH_take (i := 5) (oi := ⟨some 18, _, _, _, _, _⟩) (v := ?_) rfl (by kernel_rfl) (by kernel_rfl) (by kernel_rfl) (fun _ _ _ h => h) (Or.inl ⟨by rfl, ?_⟩) (by assumption) ?_
        rotate_left
        · intro wq hSw; go_simp; (try with_reducible rfl)
        try simp only [Act.put, List.setIfInBounds_toArray, List.set_cons_zero, List.set_cons_succ]
        refine wpAnyH_take (i := 6) (oi := ⟨some 19, _, _, _, _, _⟩) (v := ?_) rfl (by kernel_rfl) (by kernel_rfl) (by kernel_rfl) (fun _ _ _ h => h) (Or.inl ⟨by rfl, ?_⟩) (by assumption) ?_
        rotate_left
        · intro wq hSw; obtain _ := hSw.2; have hp4 := (hSw.1.cell (p := ⟨bb, off + k * 3, none⟩) hbw).trans HC.out.1; have hp5 := (hSw.1.cell (p := ⟨bb, off + k * 3 + 1, none⟩) hbw).trans HC.out.2.1; have hp6 := (hSw.1.cell (p := ⟨bb, off + k * 3 + 2, none⟩) hbw).trans HC.out.2.2; go_simp; (try with_reducible rfl)
        try simp only [Act.put, List.setIfInBounds_toArray, List.set_cons_zero, List.set_cons_succ]
        refine wpAnyH_ready (rs := [7, 8]) (by kernel_rfl) (by simp) ?_
        refine AllReadyH.cons (o := ⟨some 20, _, _, _, _, _⟩) rfl (fun K hK => ?_) ?_
        obtain ⟨⟨t0z0, t0c0, t0f0⟩, ⟨t0z1, t0c1, t0f1⟩, ⟨t0z2, t0c2, t0f2⟩, ⟨t0z3, t0c3, t0f3⟩, _⟩ := hT0.2
        go_simp
        refine hK.out _ _ (by first | exact hHeld0 | (first | exact hHeld | (refine ⟨by go_grown, ?_⟩; simp [Cells, go_sem]; done))) (fun hHeld1 => ?_)
        clear hK K
        try clear hb
        try simp only [Act.put, List.setIfInBounds_toArray, List.set_cons_zero, List.set_cons_succ]
        refine wpAnyH_ready (rs := [8]) (by kernel_rfl) (by simp) ?_
        refine AllReadyH.cons (o := ⟨some 21, _, _, _, _, _⟩) rfl (fun K hK => ?_) AllReadyH.nil
        obtain ⟨⟨t0z0, t0c0, t0f0⟩, ⟨t0z1, t0c1, t0f1⟩, ⟨t0z2, t0c2, t0f2⟩, ⟨t0z3, t0c3, t0f3⟩, _⟩ := hT0.2
        go_simp
        refine hK.out _ _ (by first | exact hHeld1 | (first | exact hHeld | (refine ⟨by go_grown, ?_⟩; simp [Cells, go_sem]; done))) (fun hHeld2 => ?_)
        clear hK K
        try clear hb
        try simp only [Act.put, List.setIfInBounds_toArray, List.set_cons_zero, List.set_cons_succ]
        refine wpAnyH_ready (rs := [9]) (by kernel_rfl) (by simp) ?_
        refine AllReadyH.cons (o := ⟨some 22, _, _, _, _, _⟩) rfl (fun K hK => ?_) AllReadyH.nil
        go_simp
        ((with_reducible refine Calls.mono (LC.out _ (belK (L := []) (by assumption))) ?_); rintro e w7 ⟨rfl, hb⟩)
        refine hK.out _ _ (hHeld2.next hb) (fun hHeld3 => ?_)
        replace hT0 := hT0.next hb
        clear hK K
        try clear hb
        try simp only [Act.put, List.setIfInBounds_toArray, List.set_cons_zero, List.set_cons_succ]
        refine wpAnyH_take (i := 10) (oi := ⟨some 12, _, _, _, _, _⟩) (v := ?_) rfl (by kernel_rfl) (by kernel_rfl) (by kernel_rfl) (fun _ _ _ h => h) (Or.inl ⟨by rfl, ?_⟩) (by assumption) ?_
        rotate_left
        · intro wq hSw; go_simp; (try with_reducible rfl)
        try simp only [Act.put, List.setIfInBounds_toArray, List.set_cons_zero, List.set_cons_succ]
        refine wpAnyH_take (i := 11) (oi := ⟨some 23, _, _, _, _, _⟩) (v := ?_) rfl (by kernel_rfl) (by kernel_rfl) (by kernel_rfl) (fun _ _ _ h => h) (Or.inl ⟨by rfl, ?_⟩) (by assumption) ?_
        rotate_left
        · intro wq hSw; go_simp; (try with_reducible rfl)
        try simp only [Act.put, List.setIfInBounds_toArray, List.set_cons_zero, List.set_cons_succ]
        refine wpAnyH_take (i := 12) (oi := ⟨some 24, _, _, _, _, _⟩) (v := ?_) rfl (by kernel_rfl) (by kernel_rfl) (by kernel_rfl) (fun _ _ _ h => h) (Or.inl ⟨by rfl, ?_⟩) (by assumption) ?_
        rotate_left
        · intro wq hSw; go_simp; (try with_reducible rfl)
        try simp only [Act.put, List.setIfInBounds_toArray, List.set_cons_zero, List.set_cons_succ]
        refine wpAnyH_ready (rs := [13]) (by kernel_rfl) (by simp) ?_
        refine AllReadyH.cons (o := ⟨none, _, _, _, _, _⟩) rfl (fun K hK => ?_) AllReadyH.nil
        obtain ⟨⟨t0z0, t0c0, t0f0⟩, ⟨t0z1, t0c1, t0f1⟩, ⟨t0z2, t0c2, t0f2⟩, ⟨t0z3, t0c3, t0f3⟩, _⟩ := hT0.2; (try simp at t0z0); (try simp at t0c0); (try simp at t0f0); (try simp at t0z1); (try simp at t0c1); (try simp at t0f1); (try simp at t0z2); (try simp at t0c2); (try simp at t0f2); (try simp at t0z3); (try simp at t0c3); (try simp at t0f3)
        go_simp
        refine hK.out _ _ (⟨(by first | exact (((hHeld3).1.setCell (p := ⟨w.heap.size, 0, none⟩) (Nat.le_refl _) _).setCell (p := ⟨w.heap.size, 1, none⟩) (Nat.le_refl _) _) | exact (((hHeld3).1.setCell (p := ⟨w.heap.size + 1, 0, none⟩) (Nat.le_succ _) _).setCell (p := ⟨w.heap.size + 1, 1, none⟩) (Nat.le_succ _) _) | exact (((hHeld3).1.setCell (p := ⟨w.heap.size, 0, none⟩) (Nat.le_refl _) _).setCell (p := ⟨w.heap.size, 1, none⟩) (Nat.le_refl _) _).drew | exact (((hHeld3).1.setCell (p := ⟨w.heap.size + 1, 0, none⟩) (Nat.le_succ _) _).setCell (p := ⟨w.heap.size + 1, 1, none⟩) (Nat.le_succ _) _).drew), trivial⟩) (fun hHeld4 => ?_)
        clear hK K
        try clear hb
        try simp only [Act.put, List.setIfInBounds_toArray, List.set_cons_zero, List.set_cons_succ]
        refine wpAnyH_ready (rs := [14]) (by kernel_rfl) (by simp) ?_
        refine AllReadyH.cons (o := ⟨none, _, _, _, _, _⟩) rfl (fun K hK => ?_) AllReadyH.nil
        go_simp
        refine hK.out _ _ (⟨(by first | exact (((hHeld4).1.setCell (p := ⟨w.heap.size, 0, none⟩) (Nat.le_refl _) _).setCell (p := ⟨w.heap.size, 1, none⟩) (Nat.le_refl _) _) | exact (((hHeld4).1.setCell (p := ⟨w.heap.size + 1, 0, none⟩) (Nat.le_succ _) _).setCell (p := ⟨w.heap.size + 1, 1, none⟩) (Nat.le_succ _) _) | exact (((hHeld4).1.setCell (p := ⟨w.heap.size, 0, none⟩) (Nat.le_refl _) _).setCell (p := ⟨w.heap.size, 1, none⟩) (Nat.le_refl _) _).drew | exact (((hHeld4).1.setCell (p := ⟨w.heap.size + 1, 0, none⟩) (Nat.le_succ _) _).setCell (p := ⟨w.heap.size + 1, 1, none⟩) (Nat.le_succ _) _).drew), trivial⟩) (fun hHeld5 => ?_)
        clear hK K
        try clear hb
        try simp only [Act.put, List.setIfInBounds_toArray, List.set_cons_zero, List.set_cons_succ]
        refine wpAnyH_done (by kernel_rfl) ?_ _
        have hHeld := hHeld5
        rotate_left 1
        refine AllReadyH.cons (o := ⟨some 21, _, _, _, _, _⟩) rfl (fun K hK => ?_) ?_
        obtain ⟨⟨t0z0, t0c0, t0f0⟩, ⟨t0z1, t0c1, t0f1⟩, ⟨t0z2, t0c2, t0f2⟩, ⟨t0z3, t0c3, t0f3⟩, _⟩ := hT0.2
        go_simp
        refine hK.out _ _ (by first | exact hHeld0 | (first | exact hHeld | (refine ⟨by go_grown, ?_⟩; simp [Cells, go_sem]; done))) (fun hHeld6 => ?_)
        clear hK K
        try clear hb
        try simp only [Act.put, List.setIfInBounds_toArray, List.set_cons_zero, List.set_cons_succ]
        refine wpAnyH_ready (rs := [7]) (by kernel_rfl) (by simp) ?_
        refine AllReadyH.cons (o := ⟨some 20, _, _, _, _, _⟩) rfl (fun K hK => ?_) AllReadyH.nil
        obtain ⟨⟨t0z0, t0c0, t0f0⟩, ⟨t0z1, t0c1, t0f1⟩, ⟨t0z2, t0c2, t0f2⟩, ⟨t0z3, t0c3, t0f3⟩, _⟩ := hT0.2
        go_simp
        refine hK.out _ _ (by first | exact hHeld6 | (first | exact hHeld | (refine ⟨by go_grown, ?_⟩; simp [Cells, go_sem]; done))) (fun hHeld7 => ?_)
        clear hK K
        try clear hb
        try simp only [Act.put, List.setIfInBounds_toArray, List.set_cons_zero, List.set_cons_succ]
        refine wpAnyH_ready (rs := [9]) (by kernel_rfl) (by simp) ?_
        refine AllReadyH.cons (o := ⟨some 22, _, _, _, _, _⟩) rfl (fun K hK => ?_) AllReadyH.nil
        go_simp
        ((with_reducible refine Calls.mono (LC.out _ (belK (L := []) (by assumption))) ?_); rintro e w7 ⟨rfl, hb⟩)
        refine hK.out _ _ (hHeld7.next hb) (fun hHeld8 => ?_)
        replace hT0 := hT0.next hb
        clear hK K
        try clear hb
        try simp only [Act.put, List.setIfInBounds_toArray, List.set_cons_zero, List.set_cons_succ]
        refine wpAnyH_take (i := 10) (oi := ⟨some 12, _, _, _, _, _⟩) (v := ?_) rfl (by kernel_rfl) (by kernel_rfl) (by kernel_rfl) (fun _ _ _ h => h) (Or.inl ⟨by rfl, ?_⟩) (by assumption) ?_
        rotate_left
        · intro wq hSw; go_simp; (try with_reducible rfl)
        try simp only [Act.put, List.setIfInBounds_toArray, List.set_cons_zero, List.set_cons_succ]
        refine wpAnyH_take (i := 11) (oi := ⟨some 23, _, _, _, _, _⟩) (v := ?_) rfl (by kernel_rfl) (by kernel_rfl) (by kernel_rfl) (fun _ _ _ h => h) (Or.inl ⟨by rfl, ?_⟩) (by assumption) ?_
        rotate_left
        · intro wq hSw; go_simp; (try with_reducible rfl)
        try simp only [Act.put, List.setIfInBounds_toArray, List.set_cons_zero, List.set_cons_succ]
        refine wpAnyH_take (i := 12) (oi := ⟨some 24, _, _, _, _, _⟩) (v := ?_) rfl (by kernel_rfl) (by kernel_rfl) (by kernel_rfl) (fun _ _ _ h => h) (Or.inl ⟨by rfl, ?_⟩) (by assumption) ?_
        rotate_left
        · intro wq hSw; go_simp; (try with_reducible rfl)
        try simp only [Act.put, List.setIfInBounds_toArray, List.set_cons_zero, List.set_cons_succ]
        refine wpAnyH_ready (rs := [13]) (by kernel_rfl) (by simp) ?_
        refine AllReadyH.cons (o := ⟨none, _, _, _, _, _⟩) rfl (fun K hK => ?_) AllReadyH.nil
        obtain ⟨⟨t0z0, t0c0, t0f0⟩, ⟨t0z1, t0c1, t0f1⟩, ⟨t0z2, t0c2, t0f2⟩, ⟨t0z3, t0c3, t0f3⟩, _⟩ := hT0.2; (try simp at t0z0); (try simp at t0c0); (try simp at t0f0); (try simp at t0z1); (try simp at t0c1); (try simp at t0f1); (try simp at t0z2); (try simp at t0c2); (try simp at t0f2); (try simp at t0z3); (try simp at t0c3); (try simp at t0f3)
        go_simp
        refine hK.out _ _ (⟨(by first | exact (((hHeld8).1.setCell (p := ⟨w.heap.size, 0, none⟩) (Nat.le_refl _) _).setCell (p := ⟨w.heap.size, 1, none⟩) (Nat.le_refl _) _) | exact (((hHeld8).1.setCell (p := ⟨w.heap.size + 1, 0, none⟩) (Nat.le_succ _) _).setCell (p := ⟨w.heap.size + 1, 1, none⟩) (Nat.le_succ _) _) | exact (((hHeld8).1.setCell (p := ⟨w.heap.size, 0, none⟩) (Nat.le_refl _) _).setCell (p := ⟨w.heap.size, 1, none⟩) (Nat.le_refl _) _).drew | exact (((hHeld8).1.setCell (p := ⟨w.heap.size + 1, 0, none⟩) (Nat.le_succ _) _).setCell (p := ⟨w.heap.size + 1, 1, none⟩) (Nat.le_succ _) _).drew), trivial⟩) (fun hHeld9 => ?_)
        clear hK K
        try clear hb
        try simp only [Act.put, List.setIfInBounds_toArray, List.set_cons_zero, List.set_cons_succ]
        refine wpAnyH_ready (rs := [14]) (by kernel_rfl) (by simp) ?_
        refine AllReadyH.cons (o := ⟨none, _, _, _, _, _⟩) rfl (fun K hK => ?_) AllReadyH.nil
        go_simp
        refine hK.out _ _ (⟨(by first | exact (((hHeld9).1.setCell (p := ⟨w.heap.size, 0, none⟩) (Nat.le_refl _) _).setCell (p := ⟨w.heap.size, 1, none⟩) (Nat.le_refl _) _) | exact (((hHeld9).1.setCell (p := ⟨w.heap.size + 1, 0, none⟩) (Nat.le_succ _) _).setCell (p := ⟨w.heap.size + 1, 1, none⟩) (Nat.le_succ _) _) | exact (((hHeld9).1.setCell (p := ⟨w.heap.size, 0, none⟩) (Nat.le_refl _) _).setCell (p := ⟨w.heap.size, 1, none⟩) (Nat.le_refl _) _).drew | exact (((hHeld9).1.setCell (p := ⟨w.heap.size + 1, 0, none⟩) (Nat.le_succ _) _).setCell (p := ⟨w.heap.size + 1, 1, none⟩) (Nat.le_succ _) _).drew), trivial⟩) (fun hHeld10 => ?_)
        clear hK K
        try clear hb
        try simp only [Act.put, List.setIfInBounds_toArray, List.set_cons_zero, List.set_cons_succ]
        refine wpAnyH_done (by kernel_rfl) ?_ _
        have hHeld := hHeld10
        rotate_left 1
        exact AllReadyH.nil
        all_goals
          go_wp2_with fail
          go_meet
          case rel =>
            refine Lib.hid ⟨hHeld.1, ⟨?_, ?_, ?_⟩, ⟨?_, ?_, ?_⟩, ⟨?_, ?_, ?_⟩, ⟨?_, ?_, ?_⟩, trivial⟩
            all_goals first | (simp; omega) | (simp [go_sem, *]; done) | (simp [*]; done)
      case rest =>
        have HB5 := hcut
        clear hcut LC HC hBT
        obtain ⟨⟨kz0, kc0, kf0⟩, ⟨kz1, kc1, kf1⟩, ⟨kz2, kc2, kf2⟩, ⟨kz3, kc3, kf3⟩, _⟩ := HB5.out.2
        cases gs : shutS ⟨z0, z1, z2, z3⟩
        · rw [gs] at LL
          have HX2 : Hid (⟨z0, z1, z2, z3⟩ = allS (l.take (k + 1)) ∧ StOk ⟨z0, z1, z2, z3⟩ ∧ OpenN l (k + 1)) := Lib.hid ⟨HZ.out.1, HZ.out.2, open_next HO.out (by rw [← HZ.out.1]; exact gs)⟩
          clear gs HZ HO
          go_wp2_with fail
          refine (LL.out _).mono ?_
          rintro en w8 ⟨rfl, hb8⟩
          have HB8 := Lib.hid (HB5.out.next hb8)
          clear hb8 kz0 kc0 kf0 kz1 kc1 kf1 kz2 kc2 kf2 kz3 kc3 kf3 HB5 LL
          go_wp2_with fail
          go_roundw
          case rel => exact ⟨k + 1, ⟨z0, z1, z2, z3⟩, by simp, gk, HX2, HB8⟩
          case measure => exact index_less gk
        · rw [gs] at LL
          have E : Hid (N = k) := Lib.hid (by rw [HN.out]; exact firN_eq hkl HO.out (.inr (by rw [← HZ.out.1]; exact gs)))
          clear gs HZ HO
          go_wp2_with fail
          refine (LL.out _).mono ?_
          rintro en w8 ⟨rfl, hb8⟩
          have HB8 := Lib.hid (HB5.out.next hb8)
          go_wp2_with fail
          go_ret
          exact ⟨by rw [E.out]; rfl, HB8.out.1⟩
    · have hkk : k = l.length := by omega
      have i1 : ¬ (k : Int) < (l.length : Int) := by omega
      have E : Hid (N = k) := Lib.hid (by rw [HN.out]; exact firN_eq hkl hX.out.2.2 (.inl hkk))
      clear hX hkk
      go_wp2_with fail
      go_ret
      exact ⟨by rw [E.out]; rfl, hB.out.1⟩
end Go.Proofs.YtmdhgiaaofdjiaaGreat.P10
