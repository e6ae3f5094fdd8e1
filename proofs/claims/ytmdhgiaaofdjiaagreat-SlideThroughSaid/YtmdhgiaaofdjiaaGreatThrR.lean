/-
  The document's own answers for layer 10: Through. Conditions: those written at each fact.
-/
import Derived.Test.YtmdhgiaaofdjiaaGreatDcR
import Derived.Test.YtmdhgiaaofdjiaaGreatLdC
namespace Go.Proofs.YtmdhgiaaofdjiaaGreat.P10
open Go.RowKit Go.Shelf Go.Proofs.YtmdhgiaaofdjiaaGreat.P8

theorem goes_drop {a r n d t0 : Int} {l : List Bd} {k : Nat} {b : Bd} (h : l[k]? = some b) : goesB a r n d t0 (l.drop k) = (wnB a r n d (b.t - t0) b.lo b.hi && goesB a r n d t0 (l.drop (k + 1))) := by
  rw [drop_of h]
  rfl
set_option maxRecDepth 100000 in
set_option maxHeartbeats 8000000 in
theorem refThrough_any (a r n d : Int) (hL : lineB a r n d = true) (l : List Bd) (hl : l.length ≤ 1000000) (hT : ∀ b ∈ l, BdOk b ∧ headT l ≤ b.t) (v : Value) (w : World) (h : ReadsD w v l) :
    Calls Tryz.prog 31 #[v, lnV a r n d] w (Ret w (.bool (goesB a r n d (headT l) l))) := by
  obtain ⟨A, c, rfl, hc, hk⟩ := h
  have HK := Lib.hid hk
  have HTT := Lib.hid hT
  obtain ⟨R, hR'⟩ : ∃ R, R = goesB a r n d (headT l) l := ⟨_, rfl⟩
  rw [← hR']
  have HRR := Lib.hid hR'
  clear hR' hk hT
  go_enter Tryz.func31, Tryz.ntmps31
  go_wp2_with fail
  have HH : Hid (Keeps w [(w.heap.size, 0, .int .i64 a), (w.heap.size, 1, .int .i64 r), (w.heap.size, 2, .int .i64 n), (w.heap.size, 3, .int .i64 d)] (w.alloc (.cells #[.int .i64 a, .int .i64 r, .int .i64 n, .int .i64 d] 23))) := Lib.hid ⟨below_alloc w _, by simp [Cells, go_sem]⟩
  go_loopw [9] (fun i wr => ∃ (k : Nat), i = .int .i64 k ∧ k ≤ l.length ∧ Hid (R = goesB a r n d (headT l) (l.drop k)) ∧ Hid (Keeps w [(w.heap.size, 0, .int .i64 a), (w.heap.size, 1, .int .i64 r), (w.heap.size, 2, .int .i64 n), (w.heap.size, 3, .int .i64 d)] wr)) (fun i _ => l.length - (intOf i).toNat)
  case atStart => exact ⟨0, rfl, by omega, by simpa using HRR, HH⟩
  case round =>
    obtain ⟨k, rfl, hkl, hO, hB⟩ := hrel
    clear HH HRR
    by_cases gk : k < l.length
    · obtain ⟨⟨t, lo, hi⟩, hx⟩ : ∃ s, l[k]? = some s := ⟨_, List.getElem?_eq_getElem gk⟩
      obtain ⟨b0, hx0⟩ : ∃ s, l[0]? = some s := ⟨l[0]'(by omega), List.getElem?_eq_getElem _⟩
      obtain ⟨bb, off, e', hbw, hp0, _⟩ := HK.out 0 _ hx0
      cases e'
      obtain ⟨_, _, e1, _, hc1, hc2, hc3⟩ := HK.out k _ hx
      cases e1
      simp only [Nat.zero_mul, Nat.add_zero] at hp0
      have ht0 : b0.t = headT l := by
        cases l with
        | nil => simp at hx0
        | cons x q => simp at hx0; subst hx0; rfl
      rw [ht0] at hp0
      have c1 := (hB.out.1.cell (p := ⟨bb, off + k * 3, none⟩) hbw).trans hc1
      have c2 := (hB.out.1.cell (p := ⟨bb, off + k * 3 + 1, none⟩) hbw).trans hc2
      have c3 := (hB.out.1.cell (p := ⟨bb, off + k * 3 + 2, none⟩) hbw).trans hc3
      simp only at c1 c2 c3
      have i1 : (k : Int) < (l.length : Int) := by omega
      have i0 : (0 : Int) ≤ (k : Int) := by omega
      have i4 : (0 : Int) < (l.length : Int) := by omega
      have i5 : 0 < l.length := by omega
      obtain ⟨⟨q1, q2, q3, q4, q5⟩, q6⟩ := HTT.out _ (List.mem_of_getElem? hx)
      have q7 := (HTT.out _ (List.mem_of_getElem? hx0)).1
      rw [BdOk, ht0] at q7
      simp only at q1 q2 q3 q4 q5 q6
      have RD := hO.out
      rw [goes_drop hx] at RD
      simp only at RD
      obtain ⟨t0, ht⟩ : ∃ t0, t0 = headT l := ⟨_, rfl⟩
      rw [← ht] at hp0 q6 q7 RD
      have HP := Lib.hid hp0
      have e1 : wrap64 (t - t0) = t - t0 := i64_keeps (by omega) (by omega)
      have e2 : IntKind.i64.wrap (t - t0) = t - t0 := by rw [IntKind.wrap_i64]; omega
      have ht2 : timeB (t - t0) = true := by rw [timeB_iff]; omega
      have WI := Lib.hid (fun W => Go.Proofs.YtmdhgiaaofdjiaaGreat.refWithin_any a r n d (t - t0) lo hi hL ht2 (by unfold I64; omega) (by unfold I64; omega) W)
      have ew : wnB a r n d (t - t0) lo hi = (decide (lo * d ≤ exV a r n d (t - t0)) && decide (exV a r n d (t - t0) ≤ hi * d)) := by rw [wnB, hL, ht2]; rfl
      rw [← ew] at WI
      have hHeld := (hB.out.alloc (.cells #[.int .i64 t, .int .i64 lo, .int .i64 hi] 50)).app (newK3 (hB.out.alloc (.cells #[.int .i64 t, .int .i64 lo, .int .i64 hi] 50)))
      have HH := Lib.hid hHeld
      have hB0 := Lib.hid hB.out
      have HT0 := Lib.hid ht
      clear hc1 hc2 hc3 hx hx0 hB hO hHeld hp0 ht0 ht q1 q2 q3 q4 q5 q6 q7 ew ht2
      go_upto_region 4 with (fail)
      have hHs : Keeps w [(w.heap.size, 0, .int .i64 a), (w.heap.size, 1, .int .i64 r), (w.heap.size, 2, .int .i64 n), (w.heap.size, 3, .int .i64 d), (wr.heap.size, 0, .int .i64 t), (wr.heap.size, 1, .int .i64 lo), (wr.heap.size, 2, .int .i64 hi)] (wr.alloc (.cells #[.int .i64 t, .int .i64 lo, .int .i64 hi] 50)) := HH.out
      generalize wr.alloc (.cells #[.int .i64 t, .int .i64 lo, .int .i64 hi] 50) = wi at hHs ⊢
      generalize wr.heap.size = gb at *
      clear HH hB0 c1 c2 c3
      cases gt : wnB a r n d (t - t0) lo hi
      · rw [gt] at WI RD
        have hO2 : Hid (R = false) := Lib.hid (by rw [RD]; rfl)
        clear RD gt
        refine region_keeps (w0 := w) (L := [(w.heap.size, 0, .int .i64 a), (w.heap.size, 1, .int .i64 r), (w.heap.size, 2, .int .i64 n), (w.heap.size, 3, .int .i64 d), (gb, 0, .int .i64 t), (gb, 1, .int .i64 lo), (gb, 2, .int .i64 hi)]) (by kernel_rfl) hHs (fun hHeld0 => ?_)
        refine wpAnyH_take (i := 0) (oi := ⟨some 13, _, _, _, _, _⟩) (v := ?_) rfl (by kernel_rfl) (by kernel_rfl) (by kernel_rfl) (fun _ _ _ h => h) (Or.inl ⟨by rfl, ?_⟩) (by assumption) ?_
        rotate_left
        · intro wq hSw; obtain ⟨⟨qz0, qc0, qf0⟩, ⟨qz1, qc1, qf1⟩, ⟨qz2, qc2, qf2⟩, ⟨qz3, qc3, qf3⟩, ⟨qz4, qc4, qf4⟩, ⟨qz5, qc5, qf5⟩, ⟨qz6, qc6, qf6⟩, _⟩ := hSw.2; have hp4 := (hSw.1.cell (p := ⟨bb, off, none⟩) hbw).trans HP.out; go_simp; (try with_reducible rfl)
        try simp only [Act.put, List.setIfInBounds_toArray, List.set_cons_zero, List.set_cons_succ]
        refine wpAnyH_take (i := 1) (oi := ⟨some 14, _, _, _, _, _⟩) (v := ?_) rfl (by kernel_rfl) (by kernel_rfl) (by kernel_rfl) (fun _ _ _ h => h) (Or.inl ⟨by rfl, ?_⟩) (by assumption) ?_
        rotate_left
        · intro wq hSw; go_simp; (try with_reducible rfl)
        try simp only [Act.put, List.setIfInBounds_toArray, List.set_cons_zero, List.set_cons_succ]
        refine wpAnyH_take (i := 2) (oi := ⟨some 15, _, _, _, _, _⟩) (v := ?_) rfl (by kernel_rfl) (by kernel_rfl) (by kernel_rfl) (fun _ _ _ h => h) (Or.inl ⟨by rfl, ?_⟩) (by assumption) ?_
        rotate_left
        · intro wq hSw; obtain ⟨⟨qz0, qc0, qf0⟩, ⟨qz1, qc1, qf1⟩, ⟨qz2, qc2, qf2⟩, ⟨qz3, qc3, qf3⟩, ⟨qz4, qc4, qf4⟩, ⟨qz5, qc5, qf5⟩, ⟨qz6, qc6, qf6⟩, _⟩ := hSw.2; have hp4 := (hSw.1.cell (p := ⟨bb, off, none⟩) hbw).trans HP.out; go_simp; (try with_reducible rfl)
        try simp only [Act.put, List.setIfInBounds_toArray, List.set_cons_zero, List.set_cons_succ]
        refine wpAnyH_take (i := 3) (oi := ⟨some 16, _, _, _, _, _⟩) (v := ?_) rfl (by kernel_rfl) (by kernel_rfl) (by kernel_rfl) (fun _ _ _ h => h) (Or.inl ⟨by rfl, ?_⟩) (by assumption) ?_
        rotate_left
        · intro wq hSw; go_simp; (try with_reducible rfl)
        try simp only [Act.put, List.setIfInBounds_toArray, List.set_cons_zero, List.set_cons_succ]
        refine wpAnyH_take (i := 4) (oi := ⟨some 17, _, _, _, _, _⟩) (v := ?_) rfl (by kernel_rfl) (by kernel_rfl) (by kernel_rfl) (fun _ _ _ h => h) (Or.inl ⟨by rfl, ?_⟩) (by assumption) ?_
        rotate_left
        · intro wq hSw; go_simp; (try with_reducible rfl)
        try simp only [Act.put, List.setIfInBounds_toArray, List.set_cons_zero, List.set_cons_succ]
        refine wpAnyH_take (i := 5) (oi := ⟨some 18, _, _, _, _, _⟩) (v := ?_) rfl (by kernel_rfl) (by kernel_rfl) (by kernel_rfl) (fun _ _ _ h => h) (Or.inl ⟨by rfl, ?_⟩) (by assumption) ?_
        rotate_left
        · intro wq hSw; go_simp; (try with_reducible rfl)
        try simp only [Act.put, List.setIfInBounds_toArray, List.set_cons_zero, List.set_cons_succ]
        refine wpAnyH_take (i := 6) (oi := ⟨some 19, _, _, _, _, _⟩) (v := ?_) rfl (by kernel_rfl) (by kernel_rfl) (by kernel_rfl) (fun _ _ _ h => h) (Or.inl ⟨by rfl, ?_⟩) (by assumption) ?_
        rotate_left
        · intro wq hSw; obtain ⟨⟨qz0, qc0, qf0⟩, ⟨qz1, qc1, qf1⟩, ⟨qz2, qc2, qf2⟩, ⟨qz3, qc3, qf3⟩, ⟨qz4, qc4, qf4⟩, ⟨qz5, qc5, qf5⟩, ⟨qz6, qc6, qf6⟩, _⟩ := hSw.2; have hp4 := (hSw.1.cell (p := ⟨bb, off, none⟩) hbw).trans HP.out; go_simp; (try with_reducible rfl)
        try simp only [Act.put, List.setIfInBounds_toArray, List.set_cons_zero, List.set_cons_succ]
        refine wpAnyH_take (i := 7) (oi := ⟨some 20, _, _, _, _, _⟩) (v := ?_) rfl (by kernel_rfl) (by kernel_rfl) (by kernel_rfl) (fun _ _ _ h => h) (Or.inl ⟨by rfl, ?_⟩) (by assumption) ?_
        rotate_left
        · intro wq hSw; go_simp; (try with_reducible rfl)
        try simp only [Act.put, List.setIfInBounds_toArray, List.set_cons_zero, List.set_cons_succ]
        refine wpAnyH_take (i := 8) (oi := ⟨some 21, _, _, _, _, _⟩) (v := ?_) rfl (by kernel_rfl) (by kernel_rfl) (by kernel_rfl) (fun _ _ _ h => h) (Or.inl ⟨by rfl, ?_⟩) (by assumption) ?_
        rotate_left
        · intro wq hSw; go_simp; (try with_reducible rfl)
        try simp only [Act.put, List.setIfInBounds_toArray, List.set_cons_zero, List.set_cons_succ]
        refine wpAnyH_take (i := 9) (oi := ⟨some 22, _, _, _, _, _⟩) (v := ?_) rfl (by kernel_rfl) (by kernel_rfl) (by kernel_rfl) (fun _ _ _ h => h) (Or.inl ⟨by rfl, ?_⟩) (by assumption) ?_
        rotate_left
        · intro wq hSw; obtain ⟨⟨qz0, qc0, qf0⟩, ⟨qz1, qc1, qf1⟩, ⟨qz2, qc2, qf2⟩, ⟨qz3, qc3, qf3⟩, ⟨qz4, qc4, qf4⟩, ⟨qz5, qc5, qf5⟩, ⟨qz6, qc6, qf6⟩, _⟩ := hSw.2; have hp4 := (hSw.1.cell (p := ⟨bb, off, none⟩) hbw).trans HP.out; go_simp; (try with_reducible rfl)
        try simp only [Act.put, List.setIfInBounds_toArray, List.set_cons_zero, List.set_cons_succ]
        refine wpAnyH_take (i := 10) (oi := ⟨some 23, _, _, _, _, _⟩) (v := ?_) rfl (by kernel_rfl) (by kernel_rfl) (by kernel_rfl) (fun _ _ _ h => h) (Or.inl ⟨by rfl, ?_⟩) (by assumption) ?_
        rotate_left
        · intro wq hSw; go_simp; (try with_reducible rfl)
        try simp only [Act.put, List.setIfInBounds_toArray, List.set_cons_zero, List.set_cons_succ]
        refine wpAnyH_take (i := 11) (oi := ⟨some 24, _, _, _, _, _⟩) (v := ?_) rfl (by kernel_rfl) (by kernel_rfl) (by kernel_rfl) (fun _ _ _ h => h) (Or.inl ⟨by rfl, ?_⟩) (by assumption) ?_
        rotate_left
        · intro wq hSw; obtain ⟨⟨qz0, qc0, qf0⟩, ⟨qz1, qc1, qf1⟩, ⟨qz2, qc2, qf2⟩, ⟨qz3, qc3, qf3⟩, ⟨qz4, qc4, qf4⟩, ⟨qz5, qc5, qf5⟩, ⟨qz6, qc6, qf6⟩, _⟩ := hSw.2; have hp4 := (hSw.1.cell (p := ⟨bb, off, none⟩) hbw).trans HP.out; go_simp; (try with_reducible rfl)
        try simp only [Act.put, List.setIfInBounds_toArray, List.set_cons_zero, List.set_cons_succ]
        refine wpAnyH_ready (rs := [12]) (by kernel_rfl) (by simp) ?_
        refine AllReadyH.cons (o := ⟨some 25, _, _, _, _, _⟩) rfl (fun K hK => ?_) AllReadyH.nil
        go_simp
        (try rw [e2]); (try rw [e1]); (with_reducible refine (WI.out _).mono ?_); rintro e w5 ⟨rfl, hb⟩
        refine hK.out _ _ (hHeld0.next hb) (fun hHeld1 => ?_)
        clear hK K
        try clear hb
        try simp only [Act.put, List.setIfInBounds_toArray, List.set_cons_zero, List.set_cons_succ]
        refine wpAnyH_take (i := 13) (oi := ⟨some 26, _, _, _, _, _⟩) (v := ?_) rfl (by kernel_rfl) (by kernel_rfl) (by kernel_rfl) (fun _ _ _ h => h) (Or.inl ⟨by rfl, ?_⟩) (by assumption) ?_
        rotate_left
        · intro wq hSw; go_simp; (try with_reducible rfl)
        try simp only [Act.put, List.setIfInBounds_toArray, List.set_cons_zero, List.set_cons_succ]
        refine wpAnyH_done (by kernel_rfl) ?_ _
        have hHeld := hHeld1
        obtain ⟨⟨kz0, kc0, kf0⟩, ⟨kz1, kc1, kf1⟩, ⟨kz2, kc2, kf2⟩, ⟨kz3, kc3, kf3⟩, ⟨kz4, kc4, kf4⟩, ⟨kz5, kc5, kf5⟩, ⟨kz6, kc6, kf6⟩, _⟩ := hHeld.2
        all_goals
          go_wp2_with fail
          go_ret
          exact ⟨(by rw [hO2.out]; try rfl), hHeld.1⟩
      · rw [gt] at WI RD
        have hO2 : Hid (R = goesB a r n d (headT l) (l.drop (k + 1))) := Lib.hid (by rw [RD, Bool.true_and, HT0.out])
        clear RD gt
        refine region_keeps (w0 := w) (L := [(w.heap.size, 0, .int .i64 a), (w.heap.size, 1, .int .i64 r), (w.heap.size, 2, .int .i64 n), (w.heap.size, 3, .int .i64 d), (gb, 0, .int .i64 t), (gb, 1, .int .i64 lo), (gb, 2, .int .i64 hi)]) (by kernel_rfl) hHs (fun hHeld0 => ?_)
        refine wpAnyH_take (i := 0) (oi := ⟨some 13, _, _, _, _, _⟩) (v := ?_) rfl (by kernel_rfl) (by kernel_rfl) (by kernel_rfl) (fun _ _ _ h => h) (Or.inl ⟨by rfl, ?_⟩) (by assumption) ?_
        rotate_left
        · intro wq hSw; obtain ⟨⟨qz0, qc0, qf0⟩, ⟨qz1, qc1, qf1⟩, ⟨qz2, qc2, qf2⟩, ⟨qz3, qc3, qf3⟩, ⟨qz4, qc4, qf4⟩, ⟨qz5, qc5, qf5⟩, ⟨qz6, qc6, qf6⟩, _⟩ := hSw.2; have hp4 := (hSw.1.cell (p := ⟨bb, off, none⟩) hbw).trans HP.out; go_simp; (try with_reducible rfl)
        try simp only [Act.put, List.setIfInBounds_toArray, List.set_cons_zero, List.set_cons_succ]
        refine wpAnyH_take (i := 1) (oi := ⟨some 14, _, _, _, _, _⟩) (v := ?_) rfl (by kernel_rfl) (by kernel_rfl) (by kernel_rfl) (fun _ _ _ h => h) (Or.inl ⟨by rfl, ?_⟩) (by assumption) ?_
        rotate_left
        · intro wq hSw; go_simp; (try with_reducible rfl)
        try simp only [Act.put, List.setIfInBounds_toArray, List.set_cons_zero, List.set_cons_succ]
        refine wpAnyH_take (i := 2) (oi := ⟨some 15, _, _, _, _, _⟩) (v := ?_) rfl (by kernel_rfl) (by kernel_rfl) (by kernel_rfl) (fun _ _ _ h => h) (Or.inl ⟨by rfl, ?_⟩) (by assumption) ?_
        rotate_left
        · intro wq hSw; obtain ⟨⟨qz0, qc0, qf0⟩, ⟨qz1, qc1, qf1⟩, ⟨qz2, qc2, qf2⟩, ⟨qz3, qc3, qf3⟩, ⟨qz4, qc4, qf4⟩, ⟨qz5, qc5, qf5⟩, ⟨qz6, qc6, qf6⟩, _⟩ := hSw.2; have hp4 := (hSw.1.cell (p := ⟨bb, off, none⟩) hbw).trans HP.out; go_simp; (try with_reducible rfl)
        try simp only [Act.put, List.setIfInBounds_toArray, List.set_cons_zero, List.set_cons_succ]
        refine wpAnyH_take (i := 3) (oi := ⟨some 16, _, _, _, _, _⟩) (v := ?_) rfl (by kernel_rfl) (by kernel_rfl) (by kernel_rfl) (fun _ _ _ h => h) (Or.inl ⟨by rfl, ?_⟩) (by assumption) ?_
        rotate_left
        · intro wq hSw; go_simp; (try with_reducible rfl)
        try simp only [Act.put, List.setIfInBounds_toArray, List.set_cons_zero, List.set_cons_succ]
        refine wpAnyH_take (i := 4) (oi := ⟨some 17, _, _, _, _, _⟩) (v := ?_) rfl (by kernel_rfl) (by kernel_rfl) (by kernel_rfl) (fun _ _ _ h => h) (Or.inl ⟨by rfl, ?_⟩) (by assumption) ?_
        rotate_left
        · intro wq hSw; go_simp; (try with_reducible rfl)
        try simp only [Act.put, List.setIfInBounds_toArray, List.set_cons_zero, List.set_cons_succ]
        refine wpAnyH_take (i := 5) (oi := ⟨some 18, _, _, _, _, _⟩) (v := ?_) rfl (by kernel_rfl) (by kernel_rfl) (by kernel_rfl) (fun _ _ _ h => h) (Or.inl ⟨by rfl, ?_⟩) (by assumption) ?_
        rotate_left
        · intro wq hSw; go_simp; (try with_reducible rfl)
        try simp only [Act.put, List.setIfInBounds_toArray, List.set_cons_zero, List.set_cons_succ]
        refine wpAnyH_take (i := 6) (oi := ⟨some 19, _, _, _, _, _⟩) (v := ?_) rfl (by kernel_rfl) (by kernel_rfl) (by kernel_rfl) (fun _ _ _ h => h) (Or.inl ⟨by rfl, ?_⟩) (by assumption) ?_
        rotate_left
        · intro wq hSw; obtain ⟨⟨qz0, qc0, qf0⟩, ⟨qz1, qc1, qf1⟩, ⟨qz2, qc2, qf2⟩, ⟨qz3, qc3, qf3⟩, ⟨qz4, qc4, qf4⟩, ⟨qz5, qc5, qf5⟩, ⟨qz6, qc6, qf6⟩, _⟩ := hSw.2; have hp4 := (hSw.1.cell (p := ⟨bb, off, none⟩) hbw).trans HP.out; go_simp; (try with_reducible rfl)
        try simp only [Act.put, List.setIfInBounds_toArray, List.set_cons_zero, List.set_cons_succ]
        refine wpAnyH_take (i := 7) (oi := ⟨some 20, _, _, _, _, _⟩) (v := ?_) rfl (by kernel_rfl) (by kernel_rfl) (by kernel_rfl) (fun _ _ _ h => h) (Or.inl ⟨by rfl, ?_⟩) (by assumption) ?_
        rotate_left
        · intro wq hSw; go_simp; (try with_reducible rfl)
        try simp only [Act.put, List.setIfInBounds_toArray, List.set_cons_zero, List.set_cons_succ]
        refine wpAnyH_take (i := 8) (oi := ⟨some 21, _, _, _, _, _⟩) (v := ?_) rfl (by kernel_rfl) (by kernel_rfl) (by kernel_rfl) (fun _ _ _ h => h) (Or.inl ⟨by rfl, ?_⟩) (by assumption) ?_
        rotate_left
        · intro wq hSw; go_simp; (try with_reducible rfl)
        try simp only [Act.put, List.setIfInBounds_toArray, List.set_cons_zero, List.set_cons_succ]
        refine wpAnyH_take (i := 9) (oi := ⟨some 22, _, _, _, _, _⟩) (v := ?_) rfl (by kernel_rfl) (by kernel_rfl) (by kernel_rfl) (fun _ _ _ h => h) (Or.inl ⟨by rfl, ?_⟩) (by assumption) ?_
        rotate_left
        · intro wq hSw; obtain ⟨⟨qz0, qc0, qf0⟩, ⟨qz1, qc1, qf1⟩, ⟨qz2, qc2, qf2⟩, ⟨qz3, qc3, qf3⟩, ⟨qz4, qc4, qf4⟩, ⟨qz5, qc5, qf5⟩, ⟨qz6, qc6, qf6⟩, _⟩ := hSw.2; have hp4 := (hSw.1.cell (p := ⟨bb, off, none⟩) hbw).trans HP.out; go_simp; (try with_reducible rfl)
        try simp only [Act.put, List.setIfInBounds_toArray, List.set_cons_zero, List.set_cons_succ]
        refine wpAnyH_take (i := 10) (oi := ⟨some 23, _, _, _, _, _⟩) (v := ?_) rfl (by kernel_rfl) (by kernel_rfl) (by kernel_rfl) (fun _ _ _ h => h) (Or.inl ⟨by rfl, ?_⟩) (by assumption) ?_
        rotate_left
        · intro wq hSw; go_simp; (try with_reducible rfl)
        try simp only [Act.put, List.setIfInBounds_toArray, List.set_cons_zero, List.set_cons_succ]
        refine wpAnyH_take (i := 11) (oi := ⟨some 24, _, _, _, _, _⟩) (v := ?_) rfl (by kernel_rfl) (by kernel_rfl) (by kernel_rfl) (fun _ _ _ h => h) (Or.inl ⟨by rfl, ?_⟩) (by assumption) ?_
        rotate_left
        · intro wq hSw; obtain ⟨⟨qz0, qc0, qf0⟩, ⟨qz1, qc1, qf1⟩, ⟨qz2, qc2, qf2⟩, ⟨qz3, qc3, qf3⟩, ⟨qz4, qc4, qf4⟩, ⟨qz5, qc5, qf5⟩, ⟨qz6, qc6, qf6⟩, _⟩ := hSw.2; have hp4 := (hSw.1.cell (p := ⟨bb, off, none⟩) hbw).trans HP.out; go_simp; (try with_reducible rfl)
        try simp only [Act.put, List.setIfInBounds_toArray, List.set_cons_zero, List.set_cons_succ]
        refine wpAnyH_ready (rs := [12]) (by kernel_rfl) (by simp) ?_
        refine AllReadyH.cons (o := ⟨some 25, _, _, _, _, _⟩) rfl (fun K hK => ?_) AllReadyH.nil
        go_simp
        (try rw [e2]); (try rw [e1]); (with_reducible refine (WI.out _).mono ?_); rintro e w5 ⟨rfl, hb⟩
        refine hK.out _ _ (hHeld0.next hb) (fun hHeld1 => ?_)
        clear hK K
        try clear hb
        try simp only [Act.put, List.setIfInBounds_toArray, List.set_cons_zero, List.set_cons_succ]
        refine wpAnyH_take (i := 13) (oi := ⟨some 26, _, _, _, _, _⟩) (v := ?_) rfl (by kernel_rfl) (by kernel_rfl) (by kernel_rfl) (fun _ _ _ h => h) (Or.inl ⟨by rfl, ?_⟩) (by assumption) ?_
        rotate_left
        · intro wq hSw; go_simp; (try with_reducible rfl)
        try simp only [Act.put, List.setIfInBounds_toArray, List.set_cons_zero, List.set_cons_succ]
        refine wpAnyH_done (by kernel_rfl) ?_ _
        have hHeld := hHeld1
        obtain ⟨⟨kz0, kc0, kf0⟩, ⟨kz1, kc1, kf1⟩, ⟨kz2, kc2, kf2⟩, ⟨kz3, kc3, kf3⟩, ⟨kz4, kc4, kf4⟩, ⟨kz5, kc5, kf5⟩, ⟨kz6, kc6, kf6⟩, _⟩ := hHeld.2
        all_goals
          go_wp2_with fail
          go_roundw
          case rel => exact ⟨k + 1, by simp, gk, hO2, Lib.hid ⟨hHeld.1, hHeld.2.1, hHeld.2.2.1, hHeld.2.2.2.1, hHeld.2.2.2.2.1, trivial⟩⟩
          case measure => exact index_less gk
    · have hkk : k = l.length := by omega
      have hO2 : Hid (R = true) := Lib.hid (by rw [hO.out, hkk, List.drop_length]; rfl)
      have i1 : ¬ (k : Int) < (l.length : Int) := by omega
      clear hO hkk
      go_wp2_with fail
      go_ret
      exact ⟨(by rw [hO2.out]; try rfl), hB.out.1⟩
theorem thr_right {a r n d : Int} {l : List Bd} (hk : okD l = true) : thrB a r n d l = (lineB a r n d && goesB a r n d (headT l) l) := by
  unfold thrB
  rw [hk, Bool.true_and]
  cases hl : lineB a r n d
  · obtain ⟨b, m, rfl⟩ := List.exists_cons_of_ne_nil (okD_ne hk)
    simp [goesB, wnB, hl]
  · rfl
end Go.Proofs.YtmdhgiaaofdjiaaGreat.P10
