/-
  The document's own answers for layer 9: Through. Conditions: those written at each fact.
-/
import Derived.Maps.RangeWalk
import Derived.Test.YtjioljgojfcckaaGreatSwZ
import Derived.Test.YtjioljgojfcckaaGreatLdC
namespace Go.Proofs.YtjioljgojfcckaaGreat.P9
open Go.RowKit Go.Shelf Go.Proofs.YtjioljgojfcckaaGreat.P8

set_option maxRecDepth 100000 in
set_option maxHeartbeats 8000000 in
theorem refThrough_any (a r n d : Int) (hL : lineB a r n d = true) (b0 : Bd) (m : List Bd) (hl : (b0 :: m).length ≤ 1000000) (hR : ∀ b ∈ b0 :: m, BdOk b) (hT : ∀ b ∈ m, b0.t < b.t) (v : Value) (w : World) (h : ReadsD w v (b0 :: m)) :
    Calls Tryz.prog 11 #[lnV a r n d, v] w (Ret w (.bool (goesB a r n d b0.t (b0 :: m)))) := by
  have hT2 : ∀ b ∈ b0 :: m, b0.t ≤ b.t := fun b hb => by
    rcases List.mem_cons.1 hb with rfl | hb
    · exact Int.le_refl _
    · exact Int.le_of_lt (hT b hb)
  obtain ⟨A, c, rfl, hc, hk⟩ := h
  obtain ⟨bb, off, rfl, hbw, hp0, _⟩ := hk 0 _ rfl
  simp only [Nat.zero_mul, Nat.add_zero] at hp0
  have HP := Lib.hid hp0
  have HK := Lib.hid hk
  have HRR := Lib.hid hR
  have HT2 := Lib.hid hT2
  have HO0 := Lib.hid (hR b0 (List.mem_cons_self ..))
  have i3 : (0 : Int) < ((b0 :: m).length : Int) := by simp only [List.length_cons]; omega
  have i4 : 0 < (b0 :: m).length := by simp
  clear hk hR hT hT2 hp0 hc
  obtain ⟨t0, lo0, hi0⟩ := b0
  simp only at HP HT2 ⊢
  generalize (⟨t0, lo0, hi0⟩ : Bd) :: m = l at *
  obtain ⟨R, hR'⟩ : ∃ R, R = goesB a r n d t0 l := ⟨_, rfl⟩
  rw [← hR']
  have hRR := Lib.hid hR'
  clear hR'
  go_enter Tryz.func11, Tryz.ntmps11
  go_wp2_with fail
  have HH : Hid (Keeps w [(w.heap.size, 0, .int .i64 a), (w.heap.size, 1, .int .i64 r), (w.heap.size, 2, .int .i64 n), (w.heap.size, 3, .int .i64 d)] (w.alloc (.cells #[.int .i64 a, .int .i64 r, .int .i64 n, .int .i64 d] 23))) := Lib.hid ⟨below_alloc w _, by simp [Cells, go_sem]⟩
  go_loopw [5] (fun i wr => ∃ (k : Nat), i = .int .i64 k ∧ k ≤ l.length ∧ Hid (R = goesB a r n d t0 (l.drop k)) ∧ Hid (Keeps w [(w.heap.size, 0, .int .i64 a), (w.heap.size, 1, .int .i64 r), (w.heap.size, 2, .int .i64 n), (w.heap.size, 3, .int .i64 d)] wr)) (fun i _ => l.length - (intOf i).toNat)
  case atStart => exact ⟨0, rfl, by omega, by simpa using hRR, HH⟩
  case round =>
    obtain ⟨k, rfl, hkl, hO, hB⟩ := hrel
    clear HH
    by_cases gk : k < l.length
    · obtain ⟨⟨t, lo, hi⟩, hx⟩ : ∃ s, l[k]? = some s := ⟨_, List.getElem?_eq_getElem gk⟩
      obtain ⟨_, _, e1, _, hc1, hc2, hc3⟩ := HK.out k _ hx
      cases e1
      simp only at hc1 hc2 hc3
      have HC := Lib.hid (And.intro hc1 (And.intro hc2 hc3))
      have i1 : (k : Int) < (l.length : Int) := by omega
      have i0 : (0 : Int) ≤ (k : Int) := by omega
      obtain ⟨q1, q2, q3, q4, q5⟩ := HRR.out _ (List.mem_of_getElem? hx)
      obtain ⟨o1, o2, _⟩ := HO0.out
      have q6 := HT2.out _ (List.mem_of_getElem? hx)
      simp only at q1 q2 q3 q4 q5 q6 o1 o2
      have e1 : wrap64 (t - t0) = t - t0 := i64_keeps (by omega) (by omega)
      have e2 : IntKind.i64.wrap (t - t0) = t - t0 := by rw [IntKind.wrap_i64]; omega
      have ht : timeB (t - t0) = true := by rw [timeB_iff]; omega
      have WI := Lib.hid (fun W => refWithin_any a r n d (t - t0) lo hi hL ht (by unfold I64; omega) (by unfold I64; omega) W)
      have hHeld := hB.out
      have RD := hO.out
      rw [goes_drop hx] at RD
      simp only at RD
      have ew : wnB a r n d (t - t0) lo hi = (decide (lo * d ≤ exV a r n d (t - t0)) && decide (exV a r n d (t - t0) ≤ hi * d)) := by rw [wnB, hL, ht]; rfl
      rw [← ew] at WI
      clear hc1 hc2 hc3 hx hB hO q1 q2 q3 q4 q5 q6 o1 o2 ew ht
      cases gt : wnB a r n d (t - t0) lo hi
      · rw [gt] at WI RD
        have hO2 : Hid (R = false) := Lib.hid (by rw [RD]; rfl)
        clear RD gt hRR
        go_upto_region 4 with (fail)
        refine region_keeps (w0 := w) (L := [(w.heap.size, 0, .int .i64 a), (w.heap.size, 1, .int .i64 r), (w.heap.size, 2, .int .i64 n), (w.heap.size, 3, .int .i64 d)]) (by kernel_rfl) hHeld (fun hHeld0 => ?_)
        refine wpAnyH_take (i := 0) (oi := ⟨some 12, _, _, _, _, _⟩) (v := ?_) rfl (by kernel_rfl) (by kernel_rfl) (by kernel_rfl) (fun _ _ _ h => h) (Or.inl ⟨by rfl, ?_⟩) (by assumption) ?_
        rotate_left
        · intro wq hSw; obtain ⟨⟨qz0, qc0, qf0⟩, ⟨qz1, qc1, qf1⟩, ⟨qz2, qc2, qf2⟩, ⟨qz3, qc3, qf3⟩, _⟩ := hSw.2; have hp4 := (hSw.1.cell (p := ⟨bb, off, none⟩) hbw).trans HP.out; have hp5 := (hSw.1.cell (p := ⟨bb, off + k * 3, none⟩) hbw).trans HC.out.1; have hp6 := (hSw.1.cell (p := ⟨bb, off + k * 3 + 1, none⟩) hbw).trans HC.out.2.1; have hp7 := (hSw.1.cell (p := ⟨bb, off + k * 3 + 2, none⟩) hbw).trans HC.out.2.2; go_simp; (try with_reducible rfl)
        try go_frame
        refine wpAnyH_take (i := 1) (oi := ⟨some 13, _, _, _, _, _⟩) (v := ?_) rfl (by kernel_rfl) (by kernel_rfl) (by kernel_rfl) (fun _ _ _ h => h) (Or.inl ⟨by rfl, ?_⟩) (by assumption) ?_
        rotate_left
        · intro wq hSw; go_simp; (try with_reducible rfl)
        try go_frame
        refine wpAnyH_take (i := 2) (oi := ⟨some 14, _, _, _, _, _⟩) (v := ?_) rfl (by kernel_rfl) (by kernel_rfl) (by kernel_rfl) (fun _ _ _ h => h) (Or.inl ⟨by rfl, ?_⟩) (by assumption) ?_
        rotate_left
        · intro wq hSw; go_simp; (try with_reducible rfl)
        try go_frame
        refine wpAnyH_take (i := 3) (oi := ⟨some 15, _, _, _, _, _⟩) (v := ?_) rfl (by kernel_rfl) (by kernel_rfl) (by kernel_rfl) (fun _ _ _ h => h) (Or.inl ⟨by rfl, ?_⟩) (by assumption) ?_
        rotate_left
        · intro wq hSw; go_simp; (try with_reducible rfl)
        try go_frame
        refine wpAnyH_take (i := 4) (oi := ⟨some 16, _, _, _, _, _⟩) (v := ?_) rfl (by kernel_rfl) (by kernel_rfl) (by kernel_rfl) (fun _ _ _ h => h) (Or.inl ⟨by rfl, ?_⟩) (by assumption) ?_
        rotate_left
        · intro wq hSw; go_simp; (try with_reducible rfl)
        try go_frame
        refine wpAnyH_take (i := 5) (oi := ⟨some 17, _, _, _, _, _⟩) (v := ?_) rfl (by kernel_rfl) (by kernel_rfl) (by kernel_rfl) (fun _ _ _ h => h) (Or.inl ⟨by rfl, ?_⟩) (by assumption) ?_
        rotate_left
        · intro wq hSw; obtain ⟨⟨qz0, qc0, qf0⟩, ⟨qz1, qc1, qf1⟩, ⟨qz2, qc2, qf2⟩, ⟨qz3, qc3, qf3⟩, _⟩ := hSw.2; have hp4 := (hSw.1.cell (p := ⟨bb, off, none⟩) hbw).trans HP.out; have hp5 := (hSw.1.cell (p := ⟨bb, off + k * 3, none⟩) hbw).trans HC.out.1; have hp6 := (hSw.1.cell (p := ⟨bb, off + k * 3 + 1, none⟩) hbw).trans HC.out.2.1; have hp7 := (hSw.1.cell (p := ⟨bb, off + k * 3 + 2, none⟩) hbw).trans HC.out.2.2; go_simp; (try with_reducible rfl)
        try go_frame
        refine wpAnyH_take (i := 6) (oi := ⟨some 18, _, _, _, _, _⟩) (v := ?_) rfl (by kernel_rfl) (by kernel_rfl) (by kernel_rfl) (fun _ _ _ h => h) (Or.inl ⟨by rfl, ?_⟩) (by assumption) ?_
        rotate_left
        · intro wq hSw; go_simp; (try with_reducible rfl)
        try go_frame
        refine wpAnyH_take (i := 7) (oi := ⟨some 19, _, _, _, _, _⟩) (v := ?_) rfl (by kernel_rfl) (by kernel_rfl) (by kernel_rfl) (fun _ _ _ h => h) (Or.inl ⟨by rfl, ?_⟩) (by assumption) ?_
        rotate_left
        · intro wq hSw; go_simp; (try with_reducible rfl)
        try go_frame
        refine wpAnyH_take (i := 8) (oi := ⟨some 20, _, _, _, _, _⟩) (v := ?_) rfl (by kernel_rfl) (by kernel_rfl) (by kernel_rfl) (fun _ _ _ h => h) (Or.inl ⟨by rfl, ?_⟩) (by assumption) ?_
        rotate_left
        · intro wq hSw; go_simp; (try with_reducible rfl)
        try go_frame
        refine wpAnyH_take (i := 9) (oi := ⟨some 21, _, _, _, _, _⟩) (v := ?_) rfl (by kernel_rfl) (by kernel_rfl) (by kernel_rfl) (fun _ _ _ h => h) (Or.inl ⟨by rfl, ?_⟩) (by assumption) ?_
        rotate_left
        · intro wq hSw; obtain ⟨⟨qz0, qc0, qf0⟩, ⟨qz1, qc1, qf1⟩, ⟨qz2, qc2, qf2⟩, ⟨qz3, qc3, qf3⟩, _⟩ := hSw.2; have hp4 := (hSw.1.cell (p := ⟨bb, off, none⟩) hbw).trans HP.out; have hp5 := (hSw.1.cell (p := ⟨bb, off + k * 3, none⟩) hbw).trans HC.out.1; have hp6 := (hSw.1.cell (p := ⟨bb, off + k * 3 + 1, none⟩) hbw).trans HC.out.2.1; have hp7 := (hSw.1.cell (p := ⟨bb, off + k * 3 + 2, none⟩) hbw).trans HC.out.2.2; go_simp; (try with_reducible rfl)
        try go_frame
        refine wpAnyH_take (i := 10) (oi := ⟨some 22, _, _, _, _, _⟩) (v := ?_) rfl (by kernel_rfl) (by kernel_rfl) (by kernel_rfl) (fun _ _ _ h => h) (Or.inl ⟨by rfl, ?_⟩) (by assumption) ?_
        rotate_left
        · intro wq hSw; go_simp; (try with_reducible rfl)
        try go_frame
        refine wpAnyH_take (i := 11) (oi := ⟨some 23, _, _, _, _, _⟩) (v := ?_) rfl (by kernel_rfl) (by kernel_rfl) (by kernel_rfl) (fun _ _ _ h => h) (Or.inl ⟨by rfl, ?_⟩) (by assumption) ?_
        rotate_left
        · intro wq hSw; go_simp; (try with_reducible rfl)
        try go_frame
        refine wpAnyH_take (i := 12) (oi := ⟨some 24, _, _, _, _, _⟩) (v := ?_) rfl (by kernel_rfl) (by kernel_rfl) (by kernel_rfl) (fun _ _ _ h => h) (Or.inl ⟨by rfl, ?_⟩) (by assumption) ?_
        rotate_left
        · intro wq hSw; go_simp; (try with_reducible rfl)
        try go_frame
        refine wpAnyH_take (i := 13) (oi := ⟨some 25, _, _, _, _, _⟩) (v := ?_) rfl (by kernel_rfl) (by kernel_rfl) (by kernel_rfl) (fun _ _ _ h => h) (Or.inl ⟨by rfl, ?_⟩) (by assumption) ?_
        rotate_left
        · intro wq hSw; go_simp; (try with_reducible rfl)
        try go_frame
        refine wpAnyH_take (i := 14) (oi := ⟨some 26, _, _, _, _, _⟩) (v := ?_) rfl (by kernel_rfl) (by kernel_rfl) (by kernel_rfl) (fun _ _ _ h => h) (Or.inl ⟨by rfl, ?_⟩) (by assumption) ?_
        rotate_left
        · intro wq hSw; go_simp; (try with_reducible rfl)
        try go_frame
        refine wpAnyH_take (i := 15) (oi := ⟨some 27, _, _, _, _, _⟩) (v := ?_) rfl (by kernel_rfl) (by kernel_rfl) (by kernel_rfl) (fun _ _ _ h => h) (Or.inl ⟨by rfl, ?_⟩) (by assumption) ?_
        rotate_left
        · intro wq hSw; obtain ⟨⟨qz0, qc0, qf0⟩, ⟨qz1, qc1, qf1⟩, ⟨qz2, qc2, qf2⟩, ⟨qz3, qc3, qf3⟩, _⟩ := hSw.2; have hp4 := (hSw.1.cell (p := ⟨bb, off, none⟩) hbw).trans HP.out; have hp5 := (hSw.1.cell (p := ⟨bb, off + k * 3, none⟩) hbw).trans HC.out.1; have hp6 := (hSw.1.cell (p := ⟨bb, off + k * 3 + 1, none⟩) hbw).trans HC.out.2.1; have hp7 := (hSw.1.cell (p := ⟨bb, off + k * 3 + 2, none⟩) hbw).trans HC.out.2.2; go_simp; (try with_reducible rfl)
        try go_frame
        refine wpAnyH_take (i := 16) (oi := ⟨some 28, _, _, _, _, _⟩) (v := ?_) rfl (by kernel_rfl) (by kernel_rfl) (by kernel_rfl) (fun _ _ _ h => h) (Or.inl ⟨by rfl, ?_⟩) (by assumption) ?_
        rotate_left
        · intro wq hSw; go_simp; (try with_reducible rfl)
        try go_frame
        refine wpAnyH_take (i := 17) (oi := ⟨some 29, _, _, _, _, _⟩) (v := ?_) rfl (by kernel_rfl) (by kernel_rfl) (by kernel_rfl) (fun _ _ _ h => h) (Or.inl ⟨by rfl, ?_⟩) (by assumption) ?_
        rotate_left
        · intro wq hSw; go_simp; (try with_reducible rfl)
        try go_frame
        refine wpAnyH_take (i := 18) (oi := ⟨some 30, _, _, _, _, _⟩) (v := ?_) rfl (by kernel_rfl) (by kernel_rfl) (by kernel_rfl) (fun _ _ _ h => h) (Or.inl ⟨by rfl, ?_⟩) (by assumption) ?_
        rotate_left
        · intro wq hSw; go_simp; (try with_reducible rfl)
        try go_frame
        refine wpAnyH_take (i := 19) (oi := ⟨some 31, _, _, _, _, _⟩) (v := ?_) rfl (by kernel_rfl) (by kernel_rfl) (by kernel_rfl) (fun _ _ _ h => h) (Or.inl ⟨by rfl, ?_⟩) (by assumption) ?_
        rotate_left
        · intro wq hSw; go_simp; (try with_reducible rfl)
        try go_frame
        refine wpAnyH_take (i := 20) (oi := ⟨some 32, _, _, _, _, _⟩) (v := ?_) rfl (by kernel_rfl) (by kernel_rfl) (by kernel_rfl) (fun _ _ _ h => h) (Or.inl ⟨by rfl, ?_⟩) (by assumption) ?_
        rotate_left
        · intro wq hSw; obtain ⟨⟨qz0, qc0, qf0⟩, ⟨qz1, qc1, qf1⟩, ⟨qz2, qc2, qf2⟩, ⟨qz3, qc3, qf3⟩, _⟩ := hSw.2; have hp4 := (hSw.1.cell (p := ⟨bb, off, none⟩) hbw).trans HP.out; have hp5 := (hSw.1.cell (p := ⟨bb, off + k * 3, none⟩) hbw).trans HC.out.1; have hp6 := (hSw.1.cell (p := ⟨bb, off + k * 3 + 1, none⟩) hbw).trans HC.out.2.1; have hp7 := (hSw.1.cell (p := ⟨bb, off + k * 3 + 2, none⟩) hbw).trans HC.out.2.2; go_simp; (try with_reducible rfl)
        try go_frame
        refine wpAnyH_ready (rs := [21]) (by kernel_rfl) (by simp) ?_
        refine AllReadyH.cons (o := ⟨some 33, _, _, _, _, _⟩) rfl (fun K hK => ?_) AllReadyH.nil
        go_simp
        (try rw [e2]); (try rw [e1]); (with_reducible refine (WI.out _).mono ?_); rintro e w5 ⟨rfl, hb⟩
        refine hK.out _ _ (hHeld0.next hb) (fun hHeld1 => ?_)
        clear hK K
        try clear hb
        try go_frame
        refine wpAnyH_take (i := 22) (oi := ⟨some 34, _, _, _, _, _⟩) (v := ?_) rfl (by kernel_rfl) (by kernel_rfl) (by kernel_rfl) (fun _ _ _ h => h) (Or.inl ⟨by rfl, ?_⟩) (by assumption) ?_
        rotate_left
        · intro wq hSw; go_simp; (try with_reducible rfl)
        try go_frame
        refine wpAnyH_done (by kernel_rfl) ?_ _
        have hHeld := hHeld1
        obtain ⟨⟨kz0, kc0, kf0⟩, ⟨kz1, kc1, kf1⟩, ⟨kz2, kc2, kf2⟩, ⟨kz3, kc3, kf3⟩, _⟩ := hHeld.2
        all_goals
          go_wp2_with fail
          go_ret
          exact ⟨(by rw [hO2.out]; try rfl), hHeld.1⟩
      · rw [gt] at WI RD
        have hO2 : Hid (R = goesB a r n d t0 (l.drop (k + 1))) := Lib.hid (by rw [RD, Bool.true_and])
        clear RD gt hRR
        go_upto_region 4 with (fail)
        refine region_keeps (w0 := w) (L := [(w.heap.size, 0, .int .i64 a), (w.heap.size, 1, .int .i64 r), (w.heap.size, 2, .int .i64 n), (w.heap.size, 3, .int .i64 d)]) (by kernel_rfl) hHeld (fun hHeld0 => ?_)
        refine wpAnyH_take (i := 0) (oi := ⟨some 12, _, _, _, _, _⟩) (v := ?_) rfl (by kernel_rfl) (by kernel_rfl) (by kernel_rfl) (fun _ _ _ h => h) (Or.inl ⟨by rfl, ?_⟩) (by assumption) ?_
        rotate_left
        · intro wq hSw; obtain ⟨⟨qz0, qc0, qf0⟩, ⟨qz1, qc1, qf1⟩, ⟨qz2, qc2, qf2⟩, ⟨qz3, qc3, qf3⟩, _⟩ := hSw.2; have hp4 := (hSw.1.cell (p := ⟨bb, off, none⟩) hbw).trans HP.out; have hp5 := (hSw.1.cell (p := ⟨bb, off + k * 3, none⟩) hbw).trans HC.out.1; have hp6 := (hSw.1.cell (p := ⟨bb, off + k * 3 + 1, none⟩) hbw).trans HC.out.2.1; have hp7 := (hSw.1.cell (p := ⟨bb, off + k * 3 + 2, none⟩) hbw).trans HC.out.2.2; go_simp; (try with_reducible rfl)
        try go_frame
        refine wpAnyH_take (i := 1) (oi := ⟨some 13, _, _, _, _, _⟩) (v := ?_) rfl (by kernel_rfl) (by kernel_rfl) (by kernel_rfl) (fun _ _ _ h => h) (Or.inl ⟨by rfl, ?_⟩) (by assumption) ?_
        rotate_left
        · intro wq hSw; go_simp; (try with_reducible rfl)
        try go_frame
        refine wpAnyH_take (i := 2) (oi := ⟨some 14, _, _, _, _, _⟩) (v := ?_) rfl (by kernel_rfl) (by kernel_rfl) (by kernel_rfl) (fun _ _ _ h => h) (Or.inl ⟨by rfl, ?_⟩) (by assumption) ?_
        rotate_left
        · intro wq hSw; go_simp; (try with_reducible rfl)
        try go_frame
        refine wpAnyH_take (i := 3) (oi := ⟨some 15, _, _, _, _, _⟩) (v := ?_) rfl (by kernel_rfl) (by kernel_rfl) (by kernel_rfl) (fun _ _ _ h => h) (Or.inl ⟨by rfl, ?_⟩) (by assumption) ?_
        rotate_left
        · intro wq hSw; go_simp; (try with_reducible rfl)
        try go_frame
        refine wpAnyH_take (i := 4) (oi := ⟨some 16, _, _, _, _, _⟩) (v := ?_) rfl (by kernel_rfl) (by kernel_rfl) (by kernel_rfl) (fun _ _ _ h => h) (Or.inl ⟨by rfl, ?_⟩) (by assumption) ?_
        rotate_left
        · intro wq hSw; go_simp; (try with_reducible rfl)
        try go_frame
        refine wpAnyH_take (i := 5) (oi := ⟨some 17, _, _, _, _, _⟩) (v := ?_) rfl (by kernel_rfl) (by kernel_rfl) (by kernel_rfl) (fun _ _ _ h => h) (Or.inl ⟨by rfl, ?_⟩) (by assumption) ?_
        rotate_left
        · intro wq hSw; obtain ⟨⟨qz0, qc0, qf0⟩, ⟨qz1, qc1, qf1⟩, ⟨qz2, qc2, qf2⟩, ⟨qz3, qc3, qf3⟩, _⟩ := hSw.2; have hp4 := (hSw.1.cell (p := ⟨bb, off, none⟩) hbw).trans HP.out; have hp5 := (hSw.1.cell (p := ⟨bb, off + k * 3, none⟩) hbw).trans HC.out.1; have hp6 := (hSw.1.cell (p := ⟨bb, off + k * 3 + 1, none⟩) hbw).trans HC.out.2.1; have hp7 := (hSw.1.cell (p := ⟨bb, off + k * 3 + 2, none⟩) hbw).trans HC.out.2.2; go_simp; (try with_reducible rfl)
        try go_frame
        refine wpAnyH_take (i := 6) (oi := ⟨some 18, _, _, _, _, _⟩) (v := ?_) rfl (by kernel_rfl) (by kernel_rfl) (by kernel_rfl) (fun _ _ _ h => h) (Or.inl ⟨by rfl, ?_⟩) (by assumption) ?_
        rotate_left
        · intro wq hSw; go_simp; (try with_reducible rfl)
        try go_frame
        refine wpAnyH_take (i := 7) (oi := ⟨some 19, _, _, _, _, _⟩) (v := ?_) rfl (by kernel_rfl) (by kernel_rfl) (by kernel_rfl) (fun _ _ _ h => h) (Or.inl ⟨by rfl, ?_⟩) (by assumption) ?_
        rotate_left
        · intro wq hSw; go_simp; (try with_reducible rfl)
        try go_frame
        refine wpAnyH_take (i := 8) (oi := ⟨some 20, _, _, _, _, _⟩) (v := ?_) rfl (by kernel_rfl) (by kernel_rfl) (by kernel_rfl) (fun _ _ _ h => h) (Or.inl ⟨by rfl, ?_⟩) (by assumption) ?_
        rotate_left
        · intro wq hSw; go_simp; (try with_reducible rfl)
        try go_frame
        refine wpAnyH_take (i := 9) (oi := ⟨some 21, _, _, _, _, _⟩) (v := ?_) rfl (by kernel_rfl) (by kernel_rfl) (by kernel_rfl) (fun _ _ _ h => h) (Or.inl ⟨by rfl, ?_⟩) (by assumption) ?_
        rotate_left
        · intro wq hSw; obtain ⟨⟨qz0, qc0, qf0⟩, ⟨qz1, qc1, qf1⟩, ⟨qz2, qc2, qf2⟩, ⟨qz3, qc3, qf3⟩, _⟩ := hSw.2; have hp4 := (hSw.1.cell (p := ⟨bb, off, none⟩) hbw).trans HP.out; have hp5 := (hSw.1.cell (p := ⟨bb, off + k * 3, none⟩) hbw).trans HC.out.1; have hp6 := (hSw.1.cell (p := ⟨bb, off + k * 3 + 1, none⟩) hbw).trans HC.out.2.1; have hp7 := (hSw.1.cell (p := ⟨bb, off + k * 3 + 2, none⟩) hbw).trans HC.out.2.2; go_simp; (try with_reducible rfl)
        try go_frame
        refine wpAnyH_take (i := 10) (oi := ⟨some 22, _, _, _, _, _⟩) (v := ?_) rfl (by kernel_rfl) (by kernel_rfl) (by kernel_rfl) (fun _ _ _ h => h) (Or.inl ⟨by rfl, ?_⟩) (by assumption) ?_
        rotate_left
        · intro wq hSw; go_simp; (try with_reducible rfl)
        try go_frame
        refine wpAnyH_take (i := 11) (oi := ⟨some 23, _, _, _, _, _⟩) (v := ?_) rfl (by kernel_rfl) (by kernel_rfl) (by kernel_rfl) (fun _ _ _ h => h) (Or.inl ⟨by rfl, ?_⟩) (by assumption) ?_
        rotate_left
        · intro wq hSw; go_simp; (try with_reducible rfl)
        try go_frame
        refine wpAnyH_take (i := 12) (oi := ⟨some 24, _, _, _, _, _⟩) (v := ?_) rfl (by kernel_rfl) (by kernel_rfl) (by kernel_rfl) (fun _ _ _ h => h) (Or.inl ⟨by rfl, ?_⟩) (by assumption) ?_
        rotate_left
        · intro wq hSw; go_simp; (try with_reducible rfl)
        try go_frame
        refine wpAnyH_take (i := 13) (oi := ⟨some 25, _, _, _, _, _⟩) (v := ?_) rfl (by kernel_rfl) (by kernel_rfl) (by kernel_rfl) (fun _ _ _ h => h) (Or.inl ⟨by rfl, ?_⟩) (by assumption) ?_
        rotate_left
        · intro wq hSw; go_simp; (try with_reducible rfl)
        try go_frame
        refine wpAnyH_take (i := 14) (oi := ⟨some 26, _, _, _, _, _⟩) (v := ?_) rfl (by kernel_rfl) (by kernel_rfl) (by kernel_rfl) (fun _ _ _ h => h) (Or.inl ⟨by rfl, ?_⟩) (by assumption) ?_
        rotate_left
        · intro wq hSw; go_simp; (try with_reducible rfl)
        try go_frame
        refine wpAnyH_take (i := 15) (oi := ⟨some 27, _, _, _, _, _⟩) (v := ?_) rfl (by kernel_rfl) (by kernel_rfl) (by kernel_rfl) (fun _ _ _ h => h) (Or.inl ⟨by rfl, ?_⟩) (by assumption) ?_
        rotate_left
        · intro wq hSw; obtain ⟨⟨qz0, qc0, qf0⟩, ⟨qz1, qc1, qf1⟩, ⟨qz2, qc2, qf2⟩, ⟨qz3, qc3, qf3⟩, _⟩ := hSw.2; have hp4 := (hSw.1.cell (p := ⟨bb, off, none⟩) hbw).trans HP.out; have hp5 := (hSw.1.cell (p := ⟨bb, off + k * 3, none⟩) hbw).trans HC.out.1; have hp6 := (hSw.1.cell (p := ⟨bb, off + k * 3 + 1, none⟩) hbw).trans HC.out.2.1; have hp7 := (hSw.1.cell (p := ⟨bb, off + k * 3 + 2, none⟩) hbw).trans HC.out.2.2; go_simp; (try with_reducible rfl)
        try go_frame
        refine wpAnyH_take (i := 16) (oi := ⟨some 28, _, _, _, _, _⟩) (v := ?_) rfl (by kernel_rfl) (by kernel_rfl) (by kernel_rfl) (fun _ _ _ h => h) (Or.inl ⟨by rfl, ?_⟩) (by assumption) ?_
        rotate_left
        · intro wq hSw; go_simp; (try with_reducible rfl)
        try go_frame
        refine wpAnyH_take (i := 17) (oi := ⟨some 29, _, _, _, _, _⟩) (v := ?_) rfl (by kernel_rfl) (by kernel_rfl) (by kernel_rfl) (fun _ _ _ h => h) (Or.inl ⟨by rfl, ?_⟩) (by assumption) ?_
        rotate_left
        · intro wq hSw; go_simp; (try with_reducible rfl)
        try go_frame
        refine wpAnyH_take (i := 18) (oi := ⟨some 30, _, _, _, _, _⟩) (v := ?_) rfl (by kernel_rfl) (by kernel_rfl) (by kernel_rfl) (fun _ _ _ h => h) (Or.inl ⟨by rfl, ?_⟩) (by assumption) ?_
        rotate_left
        · intro wq hSw; go_simp; (try with_reducible rfl)
        try go_frame
        refine wpAnyH_take (i := 19) (oi := ⟨some 31, _, _, _, _, _⟩) (v := ?_) rfl (by kernel_rfl) (by kernel_rfl) (by kernel_rfl) (fun _ _ _ h => h) (Or.inl ⟨by rfl, ?_⟩) (by assumption) ?_
        rotate_left
        · intro wq hSw; go_simp; (try with_reducible rfl)
        try go_frame
        refine wpAnyH_take (i := 20) (oi := ⟨some 32, _, _, _, _, _⟩) (v := ?_) rfl (by kernel_rfl) (by kernel_rfl) (by kernel_rfl) (fun _ _ _ h => h) (Or.inl ⟨by rfl, ?_⟩) (by assumption) ?_
        rotate_left
        · intro wq hSw; obtain ⟨⟨qz0, qc0, qf0⟩, ⟨qz1, qc1, qf1⟩, ⟨qz2, qc2, qf2⟩, ⟨qz3, qc3, qf3⟩, _⟩ := hSw.2; have hp4 := (hSw.1.cell (p := ⟨bb, off, none⟩) hbw).trans HP.out; have hp5 := (hSw.1.cell (p := ⟨bb, off + k * 3, none⟩) hbw).trans HC.out.1; have hp6 := (hSw.1.cell (p := ⟨bb, off + k * 3 + 1, none⟩) hbw).trans HC.out.2.1; have hp7 := (hSw.1.cell (p := ⟨bb, off + k * 3 + 2, none⟩) hbw).trans HC.out.2.2; go_simp; (try with_reducible rfl)
        try go_frame
        refine wpAnyH_ready (rs := [21]) (by kernel_rfl) (by simp) ?_
        refine AllReadyH.cons (o := ⟨some 33, _, _, _, _, _⟩) rfl (fun K hK => ?_) AllReadyH.nil
        go_simp
        (try rw [e2]); (try rw [e1]); (with_reducible refine (WI.out _).mono ?_); rintro e w5 ⟨rfl, hb⟩
        refine hK.out _ _ (hHeld0.next hb) (fun hHeld1 => ?_)
        clear hK K
        try clear hb
        try go_frame
        refine wpAnyH_take (i := 22) (oi := ⟨some 34, _, _, _, _, _⟩) (v := ?_) rfl (by kernel_rfl) (by kernel_rfl) (by kernel_rfl) (fun _ _ _ h => h) (Or.inl ⟨by rfl, ?_⟩) (by assumption) ?_
        rotate_left
        · intro wq hSw; go_simp; (try with_reducible rfl)
        try go_frame
        refine wpAnyH_done (by kernel_rfl) ?_ _
        have hHeld := hHeld1
        obtain ⟨⟨kz0, kc0, kf0⟩, ⟨kz1, kc1, kf1⟩, ⟨kz2, kc2, kf2⟩, ⟨kz3, kc3, kf3⟩, _⟩ := hHeld.2
        all_goals
          go_wp2_with fail
          go_roundw
          case rel => exact ⟨k + 1, by simp, gk, hO2, Lib.hid hHeld⟩
          case measure => exact index_less gk
    · have hkk : k = l.length := by omega
      have hO2 : Hid (R = true) := Lib.hid (by rw [hO.out, hkk, List.drop_length]; rfl)
      have i1 : ¬ (k : Int) < (l.length : Int) := by omega
      clear hO hkk hRR
      go_wp2_with fail
      go_ret
      exact ⟨(by rw [hO2.out]; try rfl), hB.out.1⟩
theorem swing_iff {b0 : Bd} {l : List Bd} (hR : ∀ b ∈ b0 :: l, BdOk b) :
    (firN (b0 :: l) = (b0 :: l).length ∧ firX (b0 :: l) = allD (b0 :: l) ∧ shutD (allD (b0 :: l)) = false) ∨ (firN (b0 :: l) < (b0 :: l).length ∧ shutD (allD (b0 :: l)) = true) := by
  have hle : firN (b0 :: l) ≤ (b0 :: l).length := goS_le _ _
  have hx : firN (b0 :: l) = (b0 :: l).length → firX (b0 :: l) = allD (b0 :: l) := by
    intro h
    have h2 : goS (open0 b0) (b0 :: l) = (b0 :: l).length := h
    show fD (open0 b0) ((b0 :: l).take (goS (open0 b0) (b0 :: l))) = fD (open0 b0) (b0 :: l)
    rw [h2, List.take_length]
  cases hs : shutD (allD (b0 :: l))
  · have ok := allD_ok hR
    have hf := flat_in hs
    have fo := (flat_ok ok).1
    have h1 : (1 : Int) ≤ flatE (allD (b0 :: l)) := by have := (slopeB_iff _ _).1 fo; omega
    have h3 := (in_fold (b0 :: l) (open_ok (hR b0 (List.mem_cons_self ..))) hR h1).1 hf
    have h4 := (all_in hR fo h3.2).1
    exact Or.inl ⟨h4, hx h4, rfl⟩
  · refine Or.inr ⟨?_, rfl⟩
    refine Nat.lt_of_le_of_ne hle (fun h => ?_)
    have := firX_open (l := b0 :: l) (by simp)
    rw [hx h, hs] at this
    exact absurd this (by decide)
theorem thr_right {a r n d : Int} {b0 : Bd} {l : List Bd} (hk : okD (b0 :: l) = true) : thrB a r n d (b0 :: l) = (lineB a r n d && goesB a r n d b0.t (b0 :: l)) := by
  unfold thrB
  rw [hk, Bool.true_and]
  cases hl : lineB a r n d
  · simp [goesB, wnB, hl]
  · rfl
end Go.Proofs.YtjioljgojfcckaaGreat.P9
