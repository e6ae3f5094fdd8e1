/-
  Layer 5: which lines may be; their exact values times D; what is over D. Conditions: those written at each fact.
-/
import Derived.Maps.RangeWalk
import Derived.Test.YtoephkglpbophaaGreatLB
import Derived.Test.YtoephkglpbophaaGreatWA
namespace Go.Proofs.YtoephkglpbophaaGreat
open Go.RowKit

abbrev lnV (a r n d : Int) : Value := .agg #[.int .i64 a, .int .i64 r, .int .i64 n, .int .i64 d]
abbrev wz (z : Int) : Value := wideV (rhi z) (rlo z)
def lineB (a r n d : Int) : Bool := slopeB n d && (lowN n d == n && lowD n d == d) && backB a && decide (0 ≤ r) && decide (r < d)
theorem lineB_iff (a r n d : Int) : lineB a r n d = true ↔ slopeB n d = true ∧ (lowN n d = n ∧ lowD n d = d) ∧ backB a = true ∧ 0 ≤ r ∧ r < d := by
  unfold lineB; simp only [Bool.and_eq_true, decide_eq_true_eq, beq_iff_eq]; simp only [and_assoc]
theorem readsS_one {w : World} {t : TypeId} {a b : Int} {v : Value} (hv : v = .slice (some ⟨w.heap.size, 0, none⟩) 1 1) : ReadsS (w.alloc (.cells #[.int .i64 a, .int .i64 b] t)) v [(a, b)] := by
  subst hv
  refine ⟨_, 1, rfl, fun i s hi => ?_⟩
  match i, hi with
  | 0, hi => simp at hi; subst hi; exact ⟨_, 0, rfl, by simp, by simp [go_sem], by simp [go_sem]⟩
theorem readsS_two {w : World} {t : TypeId} {a b c d : Int} {v : Value} (hv : v = .slice (some ⟨w.heap.size, 0, none⟩) 2 2) : ReadsS (w.alloc (.cells #[.int .i64 a, .int .i64 b, .int .i64 c, .int .i64 d] t)) v [(a, b), (c, d)] := by
  subst hv
  refine ⟨_, 2, rfl, fun i s hi => ?_⟩
  match i, hi with
  | 0, hi => simp at hi; subst hi; exact ⟨_, 0, rfl, by simp, by simp [go_sem], by simp [go_sem]⟩
  | 1, hi => simp at hi; subst hi; exact ⟨_, 0, rfl, by simp, by simp [go_sem], by simp [go_sem]⟩
theorem along_any (n d a r : Int) (w : World) : Calls Tryz.prog 80 #[slV n d, .int .i64 a, .int .i64 r] w (Ret w (lnV a r n d)) := by
  go_enter Tryz.func80, Tryz.ntmps80
  go_wp2
  go_returns
  exact ⟨rfl, by go_grown⟩

set_option maxRecDepth 100000 in
set_option maxHeartbeats 2000000 in
theorem acheck_any (a r n d : Int) (w : World) : Calls Tryz.prog 82 #[lnV a r n d] w (Ret w (.int .i64 (if lineB a r n d then 0 else 150))) := by
  have CS := fun v W k => checkSlopes_any [(n, d)] (by simp) v W k
  have LO := lowest_any n d
  have IB := Lib.hid (fun W => isBack_any a W)
  have LI := lineB_iff a r n d
  obtain ⟨R, hR⟩ : ∃ R : Value, R = .int .i64 (if lineB a r n d then 0 else 150) := ⟨_, rfl⟩
  rw [← hR]
  by_cases gs : slopeB n d = true
  · have e : badL [(n, d)] = false := by simp [badL, gs]
    rw [e, if_neg (by simp)] at CS
    replace CS := Lib.hid CS
    replace LO := Lib.hid (LO gs)
    generalize lowN n d = x at *
    generalize lowD n d = y at *
    by_cases g1 : x = n
    · have t1 : (x == n) = true := by simpa using g1
      by_cases g2 : y = d
      · have t2 : (y == d) = true := by simpa using g2
        have LJ : lineB a r n d = true ↔ backB a = true ∧ 0 ≤ r ∧ r < d := by rw [LI]; simp [gs, g1, g2]
        clear LI gs e
        subst g1 g2
        cases gb : backB a
        · rw [gb] at IB
          have e : R = .int .i64 150 := by rw [hR, if_neg (by rw [LJ]; simp [gb])]
          clear hR LJ gb
          subst e
          go_enter Tryz.func82, Tryz.ntmps82
          go_wp2_with fail
          refine region_keeps (w0 := w) (L := [(w.heap.size, 0, .int .i64 a), (w.heap.size, 1, .int .i64 r), (w.heap.size, 2, .int .i64 x), (w.heap.size, 3, .int .i64 y), (w.heap.size + 1, 0, .int .i64 x), (w.heap.size + 1, 1, .int .i64 y)]) (by kernel_rfl) (by first | exact hHeld | (refine ⟨by go_grown, ?_⟩; simp [Cells, go_sem]; done)) (fun hHeld0 => ?_)
          refine wpAnyH_take (i := 0) (oi := ⟨some 11, _, _, _, _, _⟩) (v := ?_) rfl (by kernel_rfl) (by kernel_rfl) (by kernel_rfl) (fun _ _ _ h => h) (Or.inl ⟨by rfl, ?_⟩) (by assumption) ?_
          rotate_left
          · intro wq hSw; obtain ⟨⟨qz0, qc0, qf0⟩, ⟨qz1, qc1, qf1⟩, ⟨qz2, qc2, qf2⟩, ⟨qz3, qc3, qf3⟩, ⟨qz4, qc4, qf4⟩, ⟨qz5, qc5, qf5⟩, _⟩ := hSw.2; go_simp; (try with_reducible rfl)
          try go_frame
          refine wpAnyH_ready (rs := [1]) (by kernel_rfl) (by simp) ?_
          refine AllReadyH.cons (o := ⟨some 12, _, _, _, _, _⟩) rfl (fun K hK => ?_) AllReadyH.nil
          go_simp
          refine hK.out _ _ (by first | exact hHeld0.alloc _ | exact (hHeld0.alloc _).drew) (fun hHeld1 => ?_)
          clear hK K
          try clear hb
          try go_frame
          refine wpAnyH_ready (rs := [2]) (by kernel_rfl) (by simp) ?_
          refine AllReadyH.cons (o := ⟨some 13, _, _, _, _, _⟩) rfl (fun K hK => ?_) AllReadyH.nil
          go_simp
          (first | ((with_reducible refine Calls.mono (CS.out _ _ ?_) ?_); · exact readsS_one (by simp)) | (with_reducible refine Calls.mono (LO.out _) ?_)); rintro e w5 ⟨rfl, hb⟩
          refine hK.out _ _ (hHeld1.next hb) (fun hHeld2 => ?_)
          clear hK K
          try clear hb
          try go_frame
          refine wpAnyH_take (i := 3) (oi := ⟨some 14, _, _, _, _, _⟩) (v := ?_) rfl (by kernel_rfl) (by kernel_rfl) (by kernel_rfl) (fun _ _ _ h => h) (Or.inl ⟨by rfl, ?_⟩) (by assumption) ?_
          rotate_left
          · intro wq hSw; go_simp; (try with_reducible rfl)
          try go_frame
          refine wpAnyH_take (i := 4) (oi := ⟨some 15, _, _, _, _, _⟩) (v := ?_) rfl (by kernel_rfl) (by kernel_rfl) (by kernel_rfl) (fun _ _ _ h => h) (Or.inl ⟨by rfl, ?_⟩) (by assumption) ?_
          rotate_left
          · intro wq hSw; go_simp; (try with_reducible rfl)
          try go_frame
          refine wpAnyH_take (i := 5) (oi := ⟨some 16, _, _, _, _, _⟩) (v := ?_) rfl (by kernel_rfl) (by kernel_rfl) (by kernel_rfl) (fun _ _ _ h => h) (Or.inl ⟨by rfl, ?_⟩) (by assumption) ?_
          rotate_left
          · intro wq hSw; obtain ⟨⟨qz0, qc0, qf0⟩, ⟨qz1, qc1, qf1⟩, ⟨qz2, qc2, qf2⟩, ⟨qz3, qc3, qf3⟩, ⟨qz4, qc4, qf4⟩, ⟨qz5, qc5, qf5⟩, _⟩ := hSw.2; go_simp; (try with_reducible rfl)
          try go_frame
          refine wpAnyH_take (i := 7) (oi := ⟨some 18, _, _, _, _, _⟩) (v := ?_) rfl (by kernel_rfl) (by kernel_rfl) (by kernel_rfl) (fun _ _ _ h => h) (Or.inl ⟨by rfl, ?_⟩) (by assumption) ?_
          rotate_left
          · intro wq hSw; obtain ⟨⟨qz0, qc0, qf0⟩, ⟨qz1, qc1, qf1⟩, ⟨qz2, qc2, qf2⟩, ⟨qz3, qc3, qf3⟩, ⟨qz4, qc4, qf4⟩, ⟨qz5, qc5, qf5⟩, _⟩ := hSw.2; go_simp; (try with_reducible rfl)
          try go_frame
          refine wpAnyH_ready (rs := [6]) (by kernel_rfl) (by simp) ?_
          refine AllReadyH.cons (o := ⟨some 17, _, _, _, _, _⟩) rfl (fun K hK => ?_) AllReadyH.nil
          go_simp
          (first | ((with_reducible refine Calls.mono (CS.out _ _ ?_) ?_); · exact readsS_one (by simp)) | (with_reducible refine Calls.mono (LO.out _) ?_)); rintro e w5 ⟨rfl, hb⟩
          refine hK.out _ _ (hHeld2.next hb) (fun hHeld3 => ?_)
          clear hK K
          try clear hb
          try go_frame
          refine wpAnyH_take (i := 8) (oi := ⟨some 19, _, _, _, _, _⟩) (v := ?_) rfl (by kernel_rfl) (by kernel_rfl) (by kernel_rfl) (fun _ _ _ h => h) (Or.inl ⟨by rfl, ?_⟩) (by assumption) ?_
          rotate_left
          · intro wq hSw; go_simp; (try with_reducible rfl)
          try go_frame
          refine wpAnyH_take (i := 9) (oi := ⟨some 20, _, _, _, _, _⟩) (v := ?_) rfl (by kernel_rfl) (by kernel_rfl) (by kernel_rfl) (fun _ _ _ h => h) (Or.inl ⟨by rfl, ?_⟩) (by assumption) ?_
          rotate_left
          · intro wq hSw; go_simp; (try with_reducible rfl)
          try go_frame
          refine wpAnyH_done (by kernel_rfl) ?_ _
          have hHeld := hHeld3
          obtain ⟨⟨kz0, kc0, kf0⟩, ⟨kz1, kc1, kf1⟩, ⟨kz2, kc2, kf2⟩, ⟨kz3, kc3, kf3⟩, ⟨kz4, kc4, kf4⟩, ⟨kz5, kc5, kf5⟩, _⟩ := hHeld.2
          go_wp2_with fail
          refine (IB.out _).mono ?_
          rintro e w6 ⟨rfl, hb⟩
          replace hHeld := Keeps.next (hHeld) hb
          clear hb kz0 kc0 kf0 kz1 kc1 kf1 kz2 kc2 kf2 kz3 kc3 kf3 kz4 kc4 kf4 kz5 kc5 kf5
          obtain ⟨⟨kz0, kc0, kf0⟩, ⟨kz1, kc1, kf1⟩, ⟨kz2, kc2, kf2⟩, ⟨kz3, kc3, kf3⟩, ⟨kz4, kc4, kf4⟩, ⟨kz5, kc5, kf5⟩, _⟩ := hHeld.2
          go_wp2_with fail
          go_ret
          exact ⟨rfl, hHeld.1⟩
        · rw [gb] at IB
          by_cases g3 : r < 0
          · have t3 : decide (r < 0) = true := by simpa using g3
            have e : R = .int .i64 150 := by rw [hR, if_neg (by rw [LJ]; omega)]
            clear hR LJ gb
            subst e
            go_enter Tryz.func82, Tryz.ntmps82
            go_wp2_with fail
            refine region_keeps (w0 := w) (L := [(w.heap.size, 0, .int .i64 a), (w.heap.size, 1, .int .i64 r), (w.heap.size, 2, .int .i64 x), (w.heap.size, 3, .int .i64 y), (w.heap.size + 1, 0, .int .i64 x), (w.heap.size + 1, 1, .int .i64 y)]) (by kernel_rfl) (by first | exact hHeld | (refine ⟨by go_grown, ?_⟩; simp [Cells, go_sem]; done)) (fun hHeld0 => ?_)
            refine wpAnyH_take (i := 0) (oi := ⟨some 11, _, _, _, _, _⟩) (v := ?_) rfl (by kernel_rfl) (by kernel_rfl) (by kernel_rfl) (fun _ _ _ h => h) (Or.inl ⟨by rfl, ?_⟩) (by assumption) ?_
            rotate_left
            · intro wq hSw; obtain ⟨⟨qz0, qc0, qf0⟩, ⟨qz1, qc1, qf1⟩, ⟨qz2, qc2, qf2⟩, ⟨qz3, qc3, qf3⟩, ⟨qz4, qc4, qf4⟩, ⟨qz5, qc5, qf5⟩, _⟩ := hSw.2; go_simp; (try with_reducible rfl)
            try go_frame
            refine wpAnyH_ready (rs := [1]) (by kernel_rfl) (by simp) ?_
            refine AllReadyH.cons (o := ⟨some 12, _, _, _, _, _⟩) rfl (fun K hK => ?_) AllReadyH.nil
            go_simp
            refine hK.out _ _ (by first | exact hHeld0.alloc _ | exact (hHeld0.alloc _).drew) (fun hHeld1 => ?_)
            clear hK K
            try clear hb
            try go_frame
            refine wpAnyH_ready (rs := [2]) (by kernel_rfl) (by simp) ?_
            refine AllReadyH.cons (o := ⟨some 13, _, _, _, _, _⟩) rfl (fun K hK => ?_) AllReadyH.nil
            go_simp
            (first | ((with_reducible refine Calls.mono (CS.out _ _ ?_) ?_); · exact readsS_one (by simp)) | (with_reducible refine Calls.mono (LO.out _) ?_)); rintro e w5 ⟨rfl, hb⟩
            refine hK.out _ _ (hHeld1.next hb) (fun hHeld2 => ?_)
            clear hK K
            try clear hb
            try go_frame
            refine wpAnyH_take (i := 3) (oi := ⟨some 14, _, _, _, _, _⟩) (v := ?_) rfl (by kernel_rfl) (by kernel_rfl) (by kernel_rfl) (fun _ _ _ h => h) (Or.inl ⟨by rfl, ?_⟩) (by assumption) ?_
            rotate_left
            · intro wq hSw; go_simp; (try with_reducible rfl)
            try go_frame
            refine wpAnyH_take (i := 4) (oi := ⟨some 15, _, _, _, _, _⟩) (v := ?_) rfl (by kernel_rfl) (by kernel_rfl) (by kernel_rfl) (fun _ _ _ h => h) (Or.inl ⟨by rfl, ?_⟩) (by assumption) ?_
            rotate_left
            · intro wq hSw; go_simp; (try with_reducible rfl)
            try go_frame
            refine wpAnyH_take (i := 5) (oi := ⟨some 16, _, _, _, _, _⟩) (v := ?_) rfl (by kernel_rfl) (by kernel_rfl) (by kernel_rfl) (fun _ _ _ h => h) (Or.inl ⟨by rfl, ?_⟩) (by assumption) ?_
            rotate_left
            · intro wq hSw; obtain ⟨⟨qz0, qc0, qf0⟩, ⟨qz1, qc1, qf1⟩, ⟨qz2, qc2, qf2⟩, ⟨qz3, qc3, qf3⟩, ⟨qz4, qc4, qf4⟩, ⟨qz5, qc5, qf5⟩, _⟩ := hSw.2; go_simp; (try with_reducible rfl)
            try go_frame
            refine wpAnyH_take (i := 7) (oi := ⟨some 18, _, _, _, _, _⟩) (v := ?_) rfl (by kernel_rfl) (by kernel_rfl) (by kernel_rfl) (fun _ _ _ h => h) (Or.inl ⟨by rfl, ?_⟩) (by assumption) ?_
            rotate_left
            · intro wq hSw; obtain ⟨⟨qz0, qc0, qf0⟩, ⟨qz1, qc1, qf1⟩, ⟨qz2, qc2, qf2⟩, ⟨qz3, qc3, qf3⟩, ⟨qz4, qc4, qf4⟩, ⟨qz5, qc5, qf5⟩, _⟩ := hSw.2; go_simp; (try with_reducible rfl)
            try go_frame
            refine wpAnyH_ready (rs := [6]) (by kernel_rfl) (by simp) ?_
            refine AllReadyH.cons (o := ⟨some 17, _, _, _, _, _⟩) rfl (fun K hK => ?_) AllReadyH.nil
            go_simp
            (first | ((with_reducible refine Calls.mono (CS.out _ _ ?_) ?_); · exact readsS_one (by simp)) | (with_reducible refine Calls.mono (LO.out _) ?_)); rintro e w5 ⟨rfl, hb⟩
            refine hK.out _ _ (hHeld2.next hb) (fun hHeld3 => ?_)
            clear hK K
            try clear hb
            try go_frame
            refine wpAnyH_take (i := 8) (oi := ⟨some 19, _, _, _, _, _⟩) (v := ?_) rfl (by kernel_rfl) (by kernel_rfl) (by kernel_rfl) (fun _ _ _ h => h) (Or.inl ⟨by rfl, ?_⟩) (by assumption) ?_
            rotate_left
            · intro wq hSw; go_simp; (try with_reducible rfl)
            try go_frame
            refine wpAnyH_take (i := 9) (oi := ⟨some 20, _, _, _, _, _⟩) (v := ?_) rfl (by kernel_rfl) (by kernel_rfl) (by kernel_rfl) (fun _ _ _ h => h) (Or.inl ⟨by rfl, ?_⟩) (by assumption) ?_
            rotate_left
            · intro wq hSw; go_simp; (try with_reducible rfl)
            try go_frame
            refine wpAnyH_done (by kernel_rfl) ?_ _
            have hHeld := hHeld3
            obtain ⟨⟨kz0, kc0, kf0⟩, ⟨kz1, kc1, kf1⟩, ⟨kz2, kc2, kf2⟩, ⟨kz3, kc3, kf3⟩, ⟨kz4, kc4, kf4⟩, ⟨kz5, kc5, kf5⟩, _⟩ := hHeld.2
            go_wp2_with fail
            refine (IB.out _).mono ?_
            rintro e w6 ⟨rfl, hb⟩
            replace hHeld := Keeps.next (hHeld) hb
            clear hb kz0 kc0 kf0 kz1 kc1 kf1 kz2 kc2 kf2 kz3 kc3 kf3 kz4 kc4 kf4 kz5 kc5 kf5
            obtain ⟨⟨kz0, kc0, kf0⟩, ⟨kz1, kc1, kf1⟩, ⟨kz2, kc2, kf2⟩, ⟨kz3, kc3, kf3⟩, ⟨kz4, kc4, kf4⟩, ⟨kz5, kc5, kf5⟩, _⟩ := hHeld.2
            go_wp2_with fail
            go_ret
            exact ⟨rfl, hHeld.1⟩
          · have t3 : decide (r < 0) = false := by simpa using g3
            by_cases g4 : y ≤ r
            · have t4 : decide (y ≤ r) = true := by simpa using g4
              have e : R = .int .i64 150 := by rw [hR, if_neg (by rw [LJ]; omega)]
              clear hR LJ gb
              subst e
              go_enter Tryz.func82, Tryz.ntmps82
              go_wp2_with fail
              refine region_keeps (w0 := w) (L := [(w.heap.size, 0, .int .i64 a), (w.heap.size, 1, .int .i64 r), (w.heap.size, 2, .int .i64 x), (w.heap.size, 3, .int .i64 y), (w.heap.size + 1, 0, .int .i64 x), (w.heap.size + 1, 1, .int .i64 y)]) (by kernel_rfl) (by first | exact hHeld | (refine ⟨by go_grown, ?_⟩; simp [Cells, go_sem]; done)) (fun hHeld0 => ?_)
              refine wpAnyH_take (i := 0) (oi := ⟨some 11, _, _, _, _, _⟩) (v := ?_) rfl (by kernel_rfl) (by kernel_rfl) (by kernel_rfl) (fun _ _ _ h => h) (Or.inl ⟨by rfl, ?_⟩) (by assumption) ?_
              rotate_left
              · intro wq hSw; obtain ⟨⟨qz0, qc0, qf0⟩, ⟨qz1, qc1, qf1⟩, ⟨qz2, qc2, qf2⟩, ⟨qz3, qc3, qf3⟩, ⟨qz4, qc4, qf4⟩, ⟨qz5, qc5, qf5⟩, _⟩ := hSw.2; go_simp; (try with_reducible rfl)
              try go_frame
              refine wpAnyH_ready (rs := [1]) (by kernel_rfl) (by simp) ?_
              refine AllReadyH.cons (o := ⟨some 12, _, _, _, _, _⟩) rfl (fun K hK => ?_) AllReadyH.nil
              go_simp
              refine hK.out _ _ (by first | exact hHeld0.alloc _ | exact (hHeld0.alloc _).drew) (fun hHeld1 => ?_)
              clear hK K
              try clear hb
              try go_frame
              refine wpAnyH_ready (rs := [2]) (by kernel_rfl) (by simp) ?_
              refine AllReadyH.cons (o := ⟨some 13, _, _, _, _, _⟩) rfl (fun K hK => ?_) AllReadyH.nil
              go_simp
              (first | ((with_reducible refine Calls.mono (CS.out _ _ ?_) ?_); · exact readsS_one (by simp)) | (with_reducible refine Calls.mono (LO.out _) ?_)); rintro e w5 ⟨rfl, hb⟩
              refine hK.out _ _ (hHeld1.next hb) (fun hHeld2 => ?_)
              clear hK K
              try clear hb
              try go_frame
              refine wpAnyH_take (i := 3) (oi := ⟨some 14, _, _, _, _, _⟩) (v := ?_) rfl (by kernel_rfl) (by kernel_rfl) (by kernel_rfl) (fun _ _ _ h => h) (Or.inl ⟨by rfl, ?_⟩) (by assumption) ?_
              rotate_left
              · intro wq hSw; go_simp; (try with_reducible rfl)
              try go_frame
              refine wpAnyH_take (i := 4) (oi := ⟨some 15, _, _, _, _, _⟩) (v := ?_) rfl (by kernel_rfl) (by kernel_rfl) (by kernel_rfl) (fun _ _ _ h => h) (Or.inl ⟨by rfl, ?_⟩) (by assumption) ?_
              rotate_left
              · intro wq hSw; go_simp; (try with_reducible rfl)
              try go_frame
              refine wpAnyH_take (i := 5) (oi := ⟨some 16, _, _, _, _, _⟩) (v := ?_) rfl (by kernel_rfl) (by kernel_rfl) (by kernel_rfl) (fun _ _ _ h => h) (Or.inl ⟨by rfl, ?_⟩) (by assumption) ?_
              rotate_left
              · intro wq hSw; obtain ⟨⟨qz0, qc0, qf0⟩, ⟨qz1, qc1, qf1⟩, ⟨qz2, qc2, qf2⟩, ⟨qz3, qc3, qf3⟩, ⟨qz4, qc4, qf4⟩, ⟨qz5, qc5, qf5⟩, _⟩ := hSw.2; go_simp; (try with_reducible rfl)
              try go_frame
              refine wpAnyH_take (i := 7) (oi := ⟨some 18, _, _, _, _, _⟩) (v := ?_) rfl (by kernel_rfl) (by kernel_rfl) (by kernel_rfl) (fun _ _ _ h => h) (Or.inl ⟨by rfl, ?_⟩) (by assumption) ?_
              rotate_left
              · intro wq hSw; obtain ⟨⟨qz0, qc0, qf0⟩, ⟨qz1, qc1, qf1⟩, ⟨qz2, qc2, qf2⟩, ⟨qz3, qc3, qf3⟩, ⟨qz4, qc4, qf4⟩, ⟨qz5, qc5, qf5⟩, _⟩ := hSw.2; go_simp; (try with_reducible rfl)
              try go_frame
              refine wpAnyH_ready (rs := [6]) (by kernel_rfl) (by simp) ?_
              refine AllReadyH.cons (o := ⟨some 17, _, _, _, _, _⟩) rfl (fun K hK => ?_) AllReadyH.nil
              go_simp
              (first | ((with_reducible refine Calls.mono (CS.out _ _ ?_) ?_); · exact readsS_one (by simp)) | (with_reducible refine Calls.mono (LO.out _) ?_)); rintro e w5 ⟨rfl, hb⟩
              refine hK.out _ _ (hHeld2.next hb) (fun hHeld3 => ?_)
              clear hK K
              try clear hb
              try go_frame
              refine wpAnyH_take (i := 8) (oi := ⟨some 19, _, _, _, _, _⟩) (v := ?_) rfl (by kernel_rfl) (by kernel_rfl) (by kernel_rfl) (fun _ _ _ h => h) (Or.inl ⟨by rfl, ?_⟩) (by assumption) ?_
              rotate_left
              · intro wq hSw; go_simp; (try with_reducible rfl)
              try go_frame
              refine wpAnyH_take (i := 9) (oi := ⟨some 20, _, _, _, _, _⟩) (v := ?_) rfl (by kernel_rfl) (by kernel_rfl) (by kernel_rfl) (fun _ _ _ h => h) (Or.inl ⟨by rfl, ?_⟩) (by assumption) ?_
              rotate_left
              · intro wq hSw; go_simp; (try with_reducible rfl)
              try go_frame
              refine wpAnyH_done (by kernel_rfl) ?_ _
              have hHeld := hHeld3
              obtain ⟨⟨kz0, kc0, kf0⟩, ⟨kz1, kc1, kf1⟩, ⟨kz2, kc2, kf2⟩, ⟨kz3, kc3, kf3⟩, ⟨kz4, kc4, kf4⟩, ⟨kz5, kc5, kf5⟩, _⟩ := hHeld.2
              go_wp2_with fail
              refine (IB.out _).mono ?_
              rintro e w6 ⟨rfl, hb⟩
              replace hHeld := Keeps.next (hHeld) hb
              clear hb kz0 kc0 kf0 kz1 kc1 kf1 kz2 kc2 kf2 kz3 kc3 kf3 kz4 kc4 kf4 kz5 kc5 kf5
              obtain ⟨⟨kz0, kc0, kf0⟩, ⟨kz1, kc1, kf1⟩, ⟨kz2, kc2, kf2⟩, ⟨kz3, kc3, kf3⟩, ⟨kz4, kc4, kf4⟩, ⟨kz5, kc5, kf5⟩, _⟩ := hHeld.2
              go_wp2_with fail
              go_ret
              exact ⟨rfl, hHeld.1⟩
            · have t4 : decide (y ≤ r) = false := by simpa using g4
              have e : R = .int .i64 0 := by rw [hR, if_pos (by rw [LJ]; exact ⟨gb, by omega, by omega⟩)]
              clear hR LJ gb
              subst e
              go_enter Tryz.func82, Tryz.ntmps82
              go_wp2_with fail
              refine region_keeps (w0 := w) (L := [(w.heap.size, 0, .int .i64 a), (w.heap.size, 1, .int .i64 r), (w.heap.size, 2, .int .i64 x), (w.heap.size, 3, .int .i64 y), (w.heap.size + 1, 0, .int .i64 x), (w.heap.size + 1, 1, .int .i64 y)]) (by kernel_rfl) (by first | exact hHeld | (refine ⟨by go_grown, ?_⟩; simp [Cells, go_sem]; done)) (fun hHeld0 => ?_)
              refine wpAnyH_take (i := 0) (oi := ⟨some 11, _, _, _, _, _⟩) (v := ?_) rfl (by kernel_rfl) (by kernel_rfl) (by kernel_rfl) (fun _ _ _ h => h) (Or.inl ⟨by rfl, ?_⟩) (by assumption) ?_
              rotate_left
              · intro wq hSw; obtain ⟨⟨qz0, qc0, qf0⟩, ⟨qz1, qc1, qf1⟩, ⟨qz2, qc2, qf2⟩, ⟨qz3, qc3, qf3⟩, ⟨qz4, qc4, qf4⟩, ⟨qz5, qc5, qf5⟩, _⟩ := hSw.2; go_simp; (try with_reducible rfl)
              try go_frame
              refine wpAnyH_ready (rs := [1]) (by kernel_rfl) (by simp) ?_
              refine AllReadyH.cons (o := ⟨some 12, _, _, _, _, _⟩) rfl (fun K hK => ?_) AllReadyH.nil
              go_simp
              refine hK.out _ _ (by first | exact hHeld0.alloc _ | exact (hHeld0.alloc _).drew) (fun hHeld1 => ?_)
              clear hK K
              try clear hb
              try go_frame
              refine wpAnyH_ready (rs := [2]) (by kernel_rfl) (by simp) ?_
              refine AllReadyH.cons (o := ⟨some 13, _, _, _, _, _⟩) rfl (fun K hK => ?_) AllReadyH.nil
              go_simp
              (first | ((with_reducible refine Calls.mono (CS.out _ _ ?_) ?_); · exact readsS_one (by simp)) | (with_reducible refine Calls.mono (LO.out _) ?_)); rintro e w5 ⟨rfl, hb⟩
              refine hK.out _ _ (hHeld1.next hb) (fun hHeld2 => ?_)
              clear hK K
              try clear hb
              try go_frame
              refine wpAnyH_take (i := 3) (oi := ⟨some 14, _, _, _, _, _⟩) (v := ?_) rfl (by kernel_rfl) (by kernel_rfl) (by kernel_rfl) (fun _ _ _ h => h) (Or.inl ⟨by rfl, ?_⟩) (by assumption) ?_
              rotate_left
              · intro wq hSw; go_simp; (try with_reducible rfl)
              try go_frame
              refine wpAnyH_take (i := 4) (oi := ⟨some 15, _, _, _, _, _⟩) (v := ?_) rfl (by kernel_rfl) (by kernel_rfl) (by kernel_rfl) (fun _ _ _ h => h) (Or.inl ⟨by rfl, ?_⟩) (by assumption) ?_
              rotate_left
              · intro wq hSw; go_simp; (try with_reducible rfl)
              try go_frame
              refine wpAnyH_take (i := 5) (oi := ⟨some 16, _, _, _, _, _⟩) (v := ?_) rfl (by kernel_rfl) (by kernel_rfl) (by kernel_rfl) (fun _ _ _ h => h) (Or.inl ⟨by rfl, ?_⟩) (by assumption) ?_
              rotate_left
              · intro wq hSw; obtain ⟨⟨qz0, qc0, qf0⟩, ⟨qz1, qc1, qf1⟩, ⟨qz2, qc2, qf2⟩, ⟨qz3, qc3, qf3⟩, ⟨qz4, qc4, qf4⟩, ⟨qz5, qc5, qf5⟩, _⟩ := hSw.2; go_simp; (try with_reducible rfl)
              try go_frame
              refine wpAnyH_take (i := 7) (oi := ⟨some 18, _, _, _, _, _⟩) (v := ?_) rfl (by kernel_rfl) (by kernel_rfl) (by kernel_rfl) (fun _ _ _ h => h) (Or.inl ⟨by rfl, ?_⟩) (by assumption) ?_
              rotate_left
              · intro wq hSw; obtain ⟨⟨qz0, qc0, qf0⟩, ⟨qz1, qc1, qf1⟩, ⟨qz2, qc2, qf2⟩, ⟨qz3, qc3, qf3⟩, ⟨qz4, qc4, qf4⟩, ⟨qz5, qc5, qf5⟩, _⟩ := hSw.2; go_simp; (try with_reducible rfl)
              try go_frame
              refine wpAnyH_ready (rs := [6]) (by kernel_rfl) (by simp) ?_
              refine AllReadyH.cons (o := ⟨some 17, _, _, _, _, _⟩) rfl (fun K hK => ?_) AllReadyH.nil
              go_simp
              (first | ((with_reducible refine Calls.mono (CS.out _ _ ?_) ?_); · exact readsS_one (by simp)) | (with_reducible refine Calls.mono (LO.out _) ?_)); rintro e w5 ⟨rfl, hb⟩
              refine hK.out _ _ (hHeld2.next hb) (fun hHeld3 => ?_)
              clear hK K
              try clear hb
              try go_frame
              refine wpAnyH_take (i := 8) (oi := ⟨some 19, _, _, _, _, _⟩) (v := ?_) rfl (by kernel_rfl) (by kernel_rfl) (by kernel_rfl) (fun _ _ _ h => h) (Or.inl ⟨by rfl, ?_⟩) (by assumption) ?_
              rotate_left
              · intro wq hSw; go_simp; (try with_reducible rfl)
              try go_frame
              refine wpAnyH_take (i := 9) (oi := ⟨some 20, _, _, _, _, _⟩) (v := ?_) rfl (by kernel_rfl) (by kernel_rfl) (by kernel_rfl) (fun _ _ _ h => h) (Or.inl ⟨by rfl, ?_⟩) (by assumption) ?_
              rotate_left
              · intro wq hSw; go_simp; (try with_reducible rfl)
              try go_frame
              refine wpAnyH_done (by kernel_rfl) ?_ _
              have hHeld := hHeld3
              obtain ⟨⟨kz0, kc0, kf0⟩, ⟨kz1, kc1, kf1⟩, ⟨kz2, kc2, kf2⟩, ⟨kz3, kc3, kf3⟩, ⟨kz4, kc4, kf4⟩, ⟨kz5, kc5, kf5⟩, _⟩ := hHeld.2
              go_wp2_with fail
              refine (IB.out _).mono ?_
              rintro e w6 ⟨rfl, hb⟩
              replace hHeld := Keeps.next (hHeld) hb
              clear hb kz0 kc0 kf0 kz1 kc1 kf1 kz2 kc2 kf2 kz3 kc3 kf3 kz4 kc4 kf4 kz5 kc5 kf5
              obtain ⟨⟨kz0, kc0, kf0⟩, ⟨kz1, kc1, kf1⟩, ⟨kz2, kc2, kf2⟩, ⟨kz3, kc3, kf3⟩, ⟨kz4, kc4, kf4⟩, ⟨kz5, kc5, kf5⟩, _⟩ := hHeld.2
              go_wp2_with fail
              go_ret
              exact ⟨rfl, hHeld.1⟩
      · have t2 : (y == d) = false := by simpa using g2
        have e : R = .int .i64 150 := by rw [hR, if_neg (by rw [LI]; simp [g2])]
        clear hR LI gs IB
        subst e
        subst g1
        go_enter Tryz.func82, Tryz.ntmps82
        go_wp2_with fail
        refine region_keeps (w0 := w) (L := [(w.heap.size, 0, .int .i64 a), (w.heap.size, 1, .int .i64 r), (w.heap.size, 2, .int .i64 x), (w.heap.size, 3, .int .i64 d), (w.heap.size + 1, 0, .int .i64 x), (w.heap.size + 1, 1, .int .i64 d)]) (by kernel_rfl) (by first | exact hHeld | (refine ⟨by go_grown, ?_⟩; simp [Cells, go_sem]; done)) (fun hHeld0 => ?_)
        refine wpAnyH_take (i := 0) (oi := ⟨some 11, _, _, _, _, _⟩) (v := ?_) rfl (by kernel_rfl) (by kernel_rfl) (by kernel_rfl) (fun _ _ _ h => h) (Or.inl ⟨by rfl, ?_⟩) (by assumption) ?_
        rotate_left
        · intro wq hSw; obtain ⟨⟨qz0, qc0, qf0⟩, ⟨qz1, qc1, qf1⟩, ⟨qz2, qc2, qf2⟩, ⟨qz3, qc3, qf3⟩, ⟨qz4, qc4, qf4⟩, ⟨qz5, qc5, qf5⟩, _⟩ := hSw.2; go_simp; (try with_reducible rfl)
        try go_frame
        refine wpAnyH_ready (rs := [1]) (by kernel_rfl) (by simp) ?_
        refine AllReadyH.cons (o := ⟨some 12, _, _, _, _, _⟩) rfl (fun K hK => ?_) AllReadyH.nil
        go_simp
        refine hK.out _ _ (by first | exact hHeld0.alloc _ | exact (hHeld0.alloc _).drew) (fun hHeld1 => ?_)
        clear hK K
        try clear hb
        try go_frame
        refine wpAnyH_ready (rs := [2]) (by kernel_rfl) (by simp) ?_
        refine AllReadyH.cons (o := ⟨some 13, _, _, _, _, _⟩) rfl (fun K hK => ?_) AllReadyH.nil
        go_simp
        (first | ((with_reducible refine Calls.mono (CS.out _ _ ?_) ?_); · exact readsS_one (by simp)) | (with_reducible refine Calls.mono (LO.out _) ?_)); rintro e w5 ⟨rfl, hb⟩
        refine hK.out _ _ (hHeld1.next hb) (fun hHeld2 => ?_)
        clear hK K
        try clear hb
        try go_frame
        refine wpAnyH_take (i := 3) (oi := ⟨some 14, _, _, _, _, _⟩) (v := ?_) rfl (by kernel_rfl) (by kernel_rfl) (by kernel_rfl) (fun _ _ _ h => h) (Or.inl ⟨by rfl, ?_⟩) (by assumption) ?_
        rotate_left
        · intro wq hSw; go_simp; (try with_reducible rfl)
        try go_frame
        refine wpAnyH_take (i := 4) (oi := ⟨some 15, _, _, _, _, _⟩) (v := ?_) rfl (by kernel_rfl) (by kernel_rfl) (by kernel_rfl) (fun _ _ _ h => h) (Or.inl ⟨by rfl, ?_⟩) (by assumption) ?_
        rotate_left
        · intro wq hSw; go_simp; (try with_reducible rfl)
        try go_frame
        refine wpAnyH_take (i := 5) (oi := ⟨some 16, _, _, _, _, _⟩) (v := ?_) rfl (by kernel_rfl) (by kernel_rfl) (by kernel_rfl) (fun _ _ _ h => h) (Or.inl ⟨by rfl, ?_⟩) (by assumption) ?_
        rotate_left
        · intro wq hSw; obtain ⟨⟨qz0, qc0, qf0⟩, ⟨qz1, qc1, qf1⟩, ⟨qz2, qc2, qf2⟩, ⟨qz3, qc3, qf3⟩, ⟨qz4, qc4, qf4⟩, ⟨qz5, qc5, qf5⟩, _⟩ := hSw.2; go_simp; (try with_reducible rfl)
        try go_frame
        refine wpAnyH_take (i := 7) (oi := ⟨some 18, _, _, _, _, _⟩) (v := ?_) rfl (by kernel_rfl) (by kernel_rfl) (by kernel_rfl) (fun _ _ _ h => h) (Or.inl ⟨by rfl, ?_⟩) (by assumption) ?_
        rotate_left
        · intro wq hSw; obtain ⟨⟨qz0, qc0, qf0⟩, ⟨qz1, qc1, qf1⟩, ⟨qz2, qc2, qf2⟩, ⟨qz3, qc3, qf3⟩, ⟨qz4, qc4, qf4⟩, ⟨qz5, qc5, qf5⟩, _⟩ := hSw.2; go_simp; (try with_reducible rfl)
        try go_frame
        refine wpAnyH_ready (rs := [6]) (by kernel_rfl) (by simp) ?_
        refine AllReadyH.cons (o := ⟨some 17, _, _, _, _, _⟩) rfl (fun K hK => ?_) AllReadyH.nil
        go_simp
        (first | ((with_reducible refine Calls.mono (CS.out _ _ ?_) ?_); · exact readsS_one (by simp)) | (with_reducible refine Calls.mono (LO.out _) ?_)); rintro e w5 ⟨rfl, hb⟩
        refine hK.out _ _ (hHeld2.next hb) (fun hHeld3 => ?_)
        clear hK K
        try clear hb
        try go_frame
        refine wpAnyH_take (i := 8) (oi := ⟨some 19, _, _, _, _, _⟩) (v := ?_) rfl (by kernel_rfl) (by kernel_rfl) (by kernel_rfl) (fun _ _ _ h => h) (Or.inl ⟨by rfl, ?_⟩) (by assumption) ?_
        rotate_left
        · intro wq hSw; go_simp; (try with_reducible rfl)
        try go_frame
        refine wpAnyH_take (i := 9) (oi := ⟨some 20, _, _, _, _, _⟩) (v := ?_) rfl (by kernel_rfl) (by kernel_rfl) (by kernel_rfl) (fun _ _ _ h => h) (Or.inl ⟨by rfl, ?_⟩) (by assumption) ?_
        rotate_left
        · intro wq hSw; go_simp; (try with_reducible rfl)
        try go_frame
        refine wpAnyH_done (by kernel_rfl) ?_ _
        have hHeld := hHeld3
        obtain ⟨⟨kz0, kc0, kf0⟩, ⟨kz1, kc1, kf1⟩, ⟨kz2, kc2, kf2⟩, ⟨kz3, kc3, kf3⟩, ⟨kz4, kc4, kf4⟩, ⟨kz5, kc5, kf5⟩, _⟩ := hHeld.2
        go_wp2_with fail
        go_ret
        exact ⟨rfl, hHeld.1⟩
    · have t1 : (x == n) = false := by simpa using g1
      have e : R = .int .i64 150 := by rw [hR, if_neg (by rw [LI]; simp [g1])]
      clear hR LI gs IB
      subst e
      go_enter Tryz.func82, Tryz.ntmps82
      go_wp2_with fail
      refine region_keeps (w0 := w) (L := [(w.heap.size, 0, .int .i64 a), (w.heap.size, 1, .int .i64 r), (w.heap.size, 2, .int .i64 n), (w.heap.size, 3, .int .i64 d), (w.heap.size + 1, 0, .int .i64 n), (w.heap.size + 1, 1, .int .i64 d)]) (by kernel_rfl) (by first | exact hHeld | (refine ⟨by go_grown, ?_⟩; simp [Cells, go_sem]; done)) (fun hHeld0 => ?_)
      refine wpAnyH_take (i := 0) (oi := ⟨some 11, _, _, _, _, _⟩) (v := ?_) rfl (by kernel_rfl) (by kernel_rfl) (by kernel_rfl) (fun _ _ _ h => h) (Or.inl ⟨by rfl, ?_⟩) (by assumption) ?_
      rotate_left
      · intro wq hSw; obtain ⟨⟨qz0, qc0, qf0⟩, ⟨qz1, qc1, qf1⟩, ⟨qz2, qc2, qf2⟩, ⟨qz3, qc3, qf3⟩, ⟨qz4, qc4, qf4⟩, ⟨qz5, qc5, qf5⟩, _⟩ := hSw.2; go_simp; (try with_reducible rfl)
      try go_frame
      refine wpAnyH_ready (rs := [1]) (by kernel_rfl) (by simp) ?_
      refine AllReadyH.cons (o := ⟨some 12, _, _, _, _, _⟩) rfl (fun K hK => ?_) AllReadyH.nil
      go_simp
      refine hK.out _ _ (by first | exact hHeld0.alloc _ | exact (hHeld0.alloc _).drew) (fun hHeld1 => ?_)
      clear hK K
      try clear hb
      try go_frame
      refine wpAnyH_ready (rs := [2]) (by kernel_rfl) (by simp) ?_
      refine AllReadyH.cons (o := ⟨some 13, _, _, _, _, _⟩) rfl (fun K hK => ?_) AllReadyH.nil
      go_simp
      (first | ((with_reducible refine Calls.mono (CS.out _ _ ?_) ?_); · exact readsS_one (by simp)) | (with_reducible refine Calls.mono (LO.out _) ?_)); rintro e w5 ⟨rfl, hb⟩
      refine hK.out _ _ (hHeld1.next hb) (fun hHeld2 => ?_)
      clear hK K
      try clear hb
      try go_frame
      refine wpAnyH_take (i := 3) (oi := ⟨some 14, _, _, _, _, _⟩) (v := ?_) rfl (by kernel_rfl) (by kernel_rfl) (by kernel_rfl) (fun _ _ _ h => h) (Or.inl ⟨by rfl, ?_⟩) (by assumption) ?_
      rotate_left
      · intro wq hSw; go_simp; (try with_reducible rfl)
      try go_frame
      refine wpAnyH_take (i := 4) (oi := ⟨some 15, _, _, _, _, _⟩) (v := ?_) rfl (by kernel_rfl) (by kernel_rfl) (by kernel_rfl) (fun _ _ _ h => h) (Or.inl ⟨by rfl, ?_⟩) (by assumption) ?_
      rotate_left
      · intro wq hSw; go_simp; (try with_reducible rfl)
      try go_frame
      refine wpAnyH_take (i := 5) (oi := ⟨some 16, _, _, _, _, _⟩) (v := ?_) rfl (by kernel_rfl) (by kernel_rfl) (by kernel_rfl) (fun _ _ _ h => h) (Or.inl ⟨by rfl, ?_⟩) (by assumption) ?_
      rotate_left
      · intro wq hSw; obtain ⟨⟨qz0, qc0, qf0⟩, ⟨qz1, qc1, qf1⟩, ⟨qz2, qc2, qf2⟩, ⟨qz3, qc3, qf3⟩, ⟨qz4, qc4, qf4⟩, ⟨qz5, qc5, qf5⟩, _⟩ := hSw.2; go_simp; (try with_reducible rfl)
      try go_frame
      refine wpAnyH_take (i := 7) (oi := ⟨some 18, _, _, _, _, _⟩) (v := ?_) rfl (by kernel_rfl) (by kernel_rfl) (by kernel_rfl) (fun _ _ _ h => h) (Or.inl ⟨by rfl, ?_⟩) (by assumption) ?_
      rotate_left
      · intro wq hSw; obtain ⟨⟨qz0, qc0, qf0⟩, ⟨qz1, qc1, qf1⟩, ⟨qz2, qc2, qf2⟩, ⟨qz3, qc3, qf3⟩, ⟨qz4, qc4, qf4⟩, ⟨qz5, qc5, qf5⟩, _⟩ := hSw.2; go_simp; (try with_reducible rfl)
      try go_frame
      refine wpAnyH_ready (rs := [6]) (by kernel_rfl) (by simp) ?_
      refine AllReadyH.cons (o := ⟨some 17, _, _, _, _, _⟩) rfl (fun K hK => ?_) AllReadyH.nil
      go_simp
      (first | ((with_reducible refine Calls.mono (CS.out _ _ ?_) ?_); · exact readsS_one (by simp)) | (with_reducible refine Calls.mono (LO.out _) ?_)); rintro e w5 ⟨rfl, hb⟩
      refine hK.out _ _ (hHeld2.next hb) (fun hHeld3 => ?_)
      clear hK K
      try clear hb
      try go_frame
      refine wpAnyH_take (i := 8) (oi := ⟨some 19, _, _, _, _, _⟩) (v := ?_) rfl (by kernel_rfl) (by kernel_rfl) (by kernel_rfl) (fun _ _ _ h => h) (Or.inl ⟨by rfl, ?_⟩) (by assumption) ?_
      rotate_left
      · intro wq hSw; go_simp; (try with_reducible rfl)
      try go_frame
      refine wpAnyH_take (i := 9) (oi := ⟨some 20, _, _, _, _, _⟩) (v := ?_) rfl (by kernel_rfl) (by kernel_rfl) (by kernel_rfl) (fun _ _ _ h => h) (Or.inl ⟨by rfl, ?_⟩) (by assumption) ?_
      rotate_left
      · intro wq hSw; go_simp; (try with_reducible rfl)
      try go_frame
      refine wpAnyH_done (by kernel_rfl) ?_ _
      have hHeld := hHeld3
      obtain ⟨⟨kz0, kc0, kf0⟩, ⟨kz1, kc1, kf1⟩, ⟨kz2, kc2, kf2⟩, ⟨kz3, kc3, kf3⟩, ⟨kz4, kc4, kf4⟩, ⟨kz5, kc5, kf5⟩, _⟩ := hHeld.2
      go_wp2_with fail
      go_ret
      exact ⟨rfl, hHeld.1⟩
  · have e : badL [(n, d)] = true := by simpa [badL] using gs
    rw [e, if_pos rfl] at CS
    replace CS := Lib.hid CS
    have e : R = .int .i64 150 := by rw [hR, if_neg (by rw [LI]; simp [gs])]
    clear hR LI gs IB LO
    subst e
    go_enter Tryz.func82, Tryz.ntmps82
    go_wp2_with fail
    refine region_keeps (w0 := w) (L := [(w.heap.size, 0, .int .i64 a), (w.heap.size, 1, .int .i64 r), (w.heap.size, 2, .int .i64 n), (w.heap.size, 3, .int .i64 d), (w.heap.size + 1, 0, .int .i64 n), (w.heap.size + 1, 1, .int .i64 d)]) (by kernel_rfl) (by first | exact hHeld | (refine ⟨by go_grown, ?_⟩; simp [Cells, go_sem]; done)) (fun hHeld0 => ?_)
    refine wpAnyH_take (i := 0) (oi := ⟨some 11, _, _, _, _, _⟩) (v := ?_) rfl (by kernel_rfl) (by kernel_rfl) (by kernel_rfl) (fun _ _ _ h => h) (Or.inl ⟨by rfl, ?_⟩) (by assumption) ?_
    rotate_left
    · intro wq hSw; obtain ⟨⟨qz0, qc0, qf0⟩, ⟨qz1, qc1, qf1⟩, ⟨qz2, qc2, qf2⟩, ⟨qz3, qc3, qf3⟩, ⟨qz4, qc4, qf4⟩, ⟨qz5, qc5, qf5⟩, _⟩ := hSw.2; go_simp; (try with_reducible rfl)
    try go_frame
    refine wpAnyH_ready (rs := [1]) (by kernel_rfl) (by simp) ?_
    refine AllReadyH.cons (o := ⟨some 12, _, _, _, _, _⟩) rfl (fun K hK => ?_) AllReadyH.nil
    go_simp
    refine hK.out _ _ (by first | exact hHeld0.alloc _ | exact (hHeld0.alloc _).drew) (fun hHeld1 => ?_)
    clear hK K
    try clear hb
    try go_frame
    refine wpAnyH_ready (rs := [2]) (by kernel_rfl) (by simp) ?_
    refine AllReadyH.cons (o := ⟨some 13, _, _, _, _, _⟩) rfl (fun K hK => ?_) AllReadyH.nil
    go_simp
    (first | ((with_reducible refine Calls.mono (CS.out _ _ ?_) ?_); · exact readsS_one (by simp)) | (with_reducible refine Calls.mono (LO.out _) ?_)); rintro e w5 ⟨rfl, hb⟩
    refine hK.out _ _ (hHeld1.next hb) (fun hHeld2 => ?_)
    clear hK K
    try clear hb
    try go_frame
    refine wpAnyH_take (i := 3) (oi := ⟨some 14, _, _, _, _, _⟩) (v := ?_) rfl (by kernel_rfl) (by kernel_rfl) (by kernel_rfl) (fun _ _ _ h => h) (Or.inl ⟨by rfl, ?_⟩) (by assumption) ?_
    rotate_left
    · intro wq hSw; go_simp; (try with_reducible rfl)
    try go_frame
    refine wpAnyH_take (i := 4) (oi := ⟨some 15, _, _, _, _, _⟩) (v := ?_) rfl (by kernel_rfl) (by kernel_rfl) (by kernel_rfl) (fun _ _ _ h => h) (Or.inl ⟨by rfl, ?_⟩) (by assumption) ?_
    rotate_left
    · intro wq hSw; go_simp; (try with_reducible rfl)
    try go_frame
    refine wpAnyH_take (i := 5) (oi := ⟨some 16, _, _, _, _, _⟩) (v := undef) rfl (by kernel_rfl) (by kernel_rfl) (by kernel_rfl) (fun _ _ _ h => h) (Or.inr ⟨by rfl, rfl⟩) (by assumption) ?_
    try go_frame
    refine wpAnyH_take (i := 6) (oi := ⟨some 17, _, _, _, _, _⟩) (v := undef) rfl (by kernel_rfl) (by kernel_rfl) (by kernel_rfl) (fun _ _ _ h => h) (Or.inr ⟨by rfl, rfl⟩) (by assumption) ?_
    try go_frame
    refine wpAnyH_take (i := 7) (oi := ⟨some 18, _, _, _, _, _⟩) (v := undef) rfl (by kernel_rfl) (by kernel_rfl) (by kernel_rfl) (fun _ _ _ h => h) (Or.inr ⟨by rfl, rfl⟩) (by assumption) ?_
    try go_frame
    refine wpAnyH_take (i := 8) (oi := ⟨some 19, _, _, _, _, _⟩) (v := undef) rfl (by kernel_rfl) (by kernel_rfl) (by kernel_rfl) (fun _ _ _ h => h) (Or.inr ⟨by rfl, rfl⟩) (by assumption) ?_
    try go_frame
    refine wpAnyH_take (i := 9) (oi := ⟨some 20, _, _, _, _, _⟩) (v := ?_) rfl (by kernel_rfl) (by kernel_rfl) (by kernel_rfl) (fun _ _ _ h => h) (Or.inl ⟨by rfl, ?_⟩) (by assumption) ?_
    rotate_left
    · intro wq hSw; go_simp; (try with_reducible rfl)
    try go_frame
    refine wpAnyH_done (by kernel_rfl) ?_ _
    have hHeld := hHeld2
    obtain ⟨⟨kz0, kc0, kf0⟩, ⟨kz1, kc1, kf1⟩, ⟨kz2, kc2, kf2⟩, ⟨kz3, kc3, kf3⟩, ⟨kz4, kc4, kf4⟩, ⟨kz5, kc5, kf5⟩, _⟩ := hHeld.2
    go_wp2_with fail
    go_ret
    exact ⟨rfl, hHeld.1⟩
theorem lcheck_any (a r n d : Int) (w : World) : Calls Tryz.prog 56 #[lnV a r n d] w (Ret w (.int .i64 (if lineB a r n d then 0 else 150))) := by
  have AC := fun W => acheck_any a r n d W
  generalize (if lineB a r n d then (0 : Int) else 150) = R at *
  replace AC := Lib.hid AC
  go_enter Tryz.func56, Tryz.ntmps56
  go_wp2_with fail
  refine (AC.out _).mono ?_
  rintro e w1 ⟨rfl, hb⟩
  go_wp2_with fail
  go_ret
  exact ⟨rfl, under (below_alloc _ _) hb⟩
end Go.Proofs.YtoephkglpbophaaGreat

/-
  Layer 5: a line's exact values, times D; what is over D; its values. Conditions: those written at each fact.
-/
namespace Go.Proofs.YtoephkglpbophaaGreat
open Go.RowKit

/-- D times the exact value. -/
def exV (a r n d t : Int) : Int := a * d + n * t + r
theorem mul_bound {x y X Y : Int} (hx : -X ≤ x ∧ x ≤ X) (hy : 0 ≤ y ∧ y ≤ Y) : -(X * Y) ≤ x * y ∧ x * y ≤ X * Y := by
  have hX : 0 ≤ X := by omega
  have a1 : x * y ≤ X * y := Int.mul_le_mul_of_nonneg_right hx.2 hy.1
  have a2 : X * y ≤ X * Y := Int.mul_le_mul_of_nonneg_left hy.2 hX
  have a3 : (-X) * y ≤ x * y := Int.mul_le_mul_of_nonneg_right hx.1 hy.1
  rw [Int.neg_mul] at a3
  omega
theorem ex_bounds {a r n d t : Int} (h : lineB a r n d = true) (ht : timeB t = true) :
    I64 a ∧ I64 n ∧ I64 d ∧ I64 t ∧ I64 r ∧ 1 ≤ d ∧ d ≤ 281474976710656 ∧
    (-(2305844108725321728 * 281474976710656) ≤ a * d ∧ a * d ≤ 2305844108725321728 * 281474976710656) ∧ (-(4611688217450643456 * 281474976710656) ≤ n * t ∧ n * t ≤ 4611688217450643456 * 281474976710656) ∧ 0 ≤ r ∧ r < 281474976710656 := by
  obtain ⟨h1, _, h3, h4, h5⟩ := (lineB_iff _ _ _ _).1 h
  have s := (slopeB_iff _ _).1 h1
  have b := (backB_iff _).1 h3
  have c := (timeB_iff _).1 ht
  have m1 := mul_bound (x := a) (y := d) (X := 2305844108725321728) (Y := 281474976710656) b ⟨by omega, s.2.2.2⟩
  have m2 := mul_bound (x := n) (y := t) (X := 4611688217450643456) (Y := 281474976710656) ⟨s.1, s.2.1⟩ c
  unfold I64
  refine ⟨by omega, by omega, by omega, by omega, by omega, by omega, by omega, m1, m2, by omega, by omega⟩
theorem ex_fits {a r n d t : Int} (h : lineB a r n d = true) (ht : timeB t = true) :
    Fits (a * d) ∧ Fits (a * d + n * t) ∧ Fits (exV a r n d t) ∧ Fits (n * t) ∧ Fits r := by
  obtain ⟨_, _, _, _, _, _, _, m1, m2, r0, r1⟩ := ex_bounds h ht
  unfold exV Fits
  generalize a * d = p at *
  generalize n * t = q at *
  omega
theorem tot_three {x y z : Int} (fx : Fits x) (fy : Fits y) (fz : Fits z) (f2 : Fits (x + y)) (f3 : Fits (x + y + z)) :
    totV (tot 0 [(rhi x, rlo x), (rhi y, rlo y), (rhi z, rlo z)]) = .tuple #[wz (x + y + z), .int .i64 0] := by
  simp only [tot, val_r fx, val_r fy, val_r fz, Int.zero_add, if_pos fx, if_pos f2, if_pos f3]
  rfl
theorem total_three (b : Nat) (x y z : Int) (fx : Fits x) (fy : Fits y) (fz : Fits z) (f2 : Fits (x + y)) (f3 : Fits (x + y + z)) (w : World) (hb : b < w.heap.size)
    (c0 : w.cell? ⟨b, 0, none⟩ = some (.int .i64 (rhi x))) (c1 : w.cell? ⟨b, 1, none⟩ = some (.int .u64 (rlo x))) (c2 : w.cell? ⟨b, 2, none⟩ = some (.int .i64 (rhi y))) (c3 : w.cell? ⟨b, 3, none⟩ = some (.int .u64 (rlo y)))
    (c4 : w.cell? ⟨b, 4, none⟩ = some (.int .i64 (rhi z))) (c5 : w.cell? ⟨b, 5, none⟩ = some (.int .u64 (rlo z))) :
    Calls Tryz.prog 83 #[.slice (some ⟨b, 0, none⟩) 3 3] w (Ret w (.tuple #[wz (x + y + z), .int .i64 0])) := by
  rw [← tot_three fx fy fz f2 f3]
  refine total_walk b 0 3 [(rhi x, rlo x), (rhi y, rlo y), (rhi z, rlo z)] ?_ (by simp) w hb ?_
  · intro u hu
    simp only [List.mem_cons, List.not_mem_nil, or_false] at hu
    rcases hu with rfl | rfl | rfl
    · exact ⟨rhi_i64 _, rlo_u64 _⟩
    · exact ⟨rhi_i64 _, rlo_u64 _⟩
    · exact ⟨rhi_i64 _, rlo_u64 _⟩
  · intro i hi
    match i, hi with
    | 0, _ => exact ⟨c0, c1⟩
    | 1, _ => exact ⟨c2, c3⟩
    | 2, _ => exact ⟨c4, c5⟩
set_option maxRecDepth 100000 in
set_option maxHeartbeats 2000000 in
theorem timesD_any (a r n d t : Int) (h : lineB a r n d = true) (ht : timeB t = true) (w : World) :
    Calls Tryz.prog 58 #[lnV a r n d, .int .i64 t] w (Ret w (wz (exV a r n d t))) := by
  obtain ⟨f1, f2, f3, f4, f5⟩ := ex_fits h ht
  obtain ⟨i1, i2, i3, i4, i5, _⟩ := ex_bounds h ht
  have M1 := Lib.hid (fun W => mul_any a d i1 i3 W)
  have M2 := Lib.hid (fun W => mul_any n t i2 i4 W)
  have OF := Lib.hid (fun W => of_any r i5 W)
  have TT := fun b W => total_three b (a * d) (n * t) r f1 f4 f5 f2 (by unfold exV at f3; exact f3) W
  clear h ht f1 f2 f3 f4 f5 i1 i2 i3 i4 i5
  unfold exV
  generalize a * d = x at *
  generalize n * t = y at *
  generalize x + y + r = z at *
  simp only [wz] at TT ⊢
  replace TT := Lib.hid TT
  generalize rhi x = x0 at *
  generalize rlo x = x1 at *
  generalize rhi y = y0 at *
  generalize rlo y = y1 at *
  generalize rhi r = r0 at *
  generalize rlo r = r1 at *
  generalize rhi z = z0 at *
  generalize rlo z = z1 at *
  go_enter Tryz.func58, Tryz.ntmps58
  go_upto_region 1 with fail
  go_cut [5] (fun s5 wx => ∃ g : Nat, s5 = .pointer (some ⟨g, 0, none⟩) ∧ wx.cell? ⟨g, 0, none⟩ = some (.int .i64 z0) ∧ wx.cell? ⟨g, 1, none⟩ = some (.int .u64 z1) ∧ Keeps w [(w.heap.size + 1, 0, .int .i64 0), (w.heap.size + 1, 1, .int .u64 0)] wx)
  case first =>
    refine region_keeps (w0 := w) (L := [(w.heap.size, 0, .int .i64 a), (w.heap.size, 1, .int .i64 r), (w.heap.size, 2, .int .i64 n), (w.heap.size, 3, .int .i64 d), (w.heap.size + 1, 0, .int .i64 0), (w.heap.size + 1, 1, .int .u64 0)]) (by kernel_rfl) (by first | exact hHeld | (refine ⟨by go_grown, ?_⟩; simp [Cells, go_sem]; done)) (fun hHeld0 => ?_)
    refine wpAnyH_take (i := 0) (oi := ⟨some 8, _, _, _, _, _⟩) (v := ?_) rfl (by kernel_rfl) (by kernel_rfl) (by kernel_rfl) (fun _ _ _ h => h) (Or.inl ⟨by rfl, ?_⟩) (by assumption) ?_
    rotate_left
    · intro wq hSw; go_simp; (try with_reducible rfl)
    try go_frame
    refine wpAnyH_take (i := 1) (oi := ⟨some 9, _, _, _, _, _⟩) (v := ?_) rfl (by kernel_rfl) (by kernel_rfl) (by kernel_rfl) (fun _ _ _ h => h) (Or.inl ⟨by rfl, ?_⟩) (by assumption) ?_
    rotate_left
    · intro wq hSw; go_simp; (try with_reducible rfl)
    try go_frame
    refine wpAnyH_take (i := 2) (oi := ⟨some 10, _, _, _, _, _⟩) (v := ?_) rfl (by kernel_rfl) (by kernel_rfl) (by kernel_rfl) (fun _ _ _ h => h) (Or.inl ⟨by rfl, ?_⟩) (by assumption) ?_
    rotate_left
    · intro wq hSw; obtain ⟨⟨qz0, qc0, qf0⟩, ⟨qz1, qc1, qf1⟩, ⟨qz2, qc2, qf2⟩, ⟨qz3, qc3, qf3⟩, ⟨qz4, qc4, qf4⟩, ⟨qz5, qc5, qf5⟩, _⟩ := hSw.2; go_simp; (try with_reducible rfl)
    try go_frame
    refine wpAnyH_take (i := 3) (oi := ⟨some 11, _, _, _, _, _⟩) (v := ?_) rfl (by kernel_rfl) (by kernel_rfl) (by kernel_rfl) (fun _ _ _ h => h) (Or.inl ⟨by rfl, ?_⟩) (by assumption) ?_
    rotate_left
    · intro wq hSw; go_simp; (try with_reducible rfl)
    try go_frame
    refine wpAnyH_take (i := 4) (oi := ⟨some 12, _, _, _, _, _⟩) (v := ?_) rfl (by kernel_rfl) (by kernel_rfl) (by kernel_rfl) (fun _ _ _ h => h) (Or.inl ⟨by rfl, ?_⟩) (by assumption) ?_
    rotate_left
    · intro wq hSw; go_simp; (try with_reducible rfl)
    try go_frame
    refine wpAnyH_take (i := 5) (oi := ⟨some 13, _, _, _, _, _⟩) (v := ?_) rfl (by kernel_rfl) (by kernel_rfl) (by kernel_rfl) (fun _ _ _ h => h) (Or.inl ⟨by rfl, ?_⟩) (by assumption) ?_
    rotate_left
    · intro wq hSw; obtain ⟨⟨qz0, qc0, qf0⟩, ⟨qz1, qc1, qf1⟩, ⟨qz2, qc2, qf2⟩, ⟨qz3, qc3, qf3⟩, ⟨qz4, qc4, qf4⟩, ⟨qz5, qc5, qf5⟩, _⟩ := hSw.2; go_simp; (try with_reducible rfl)
    try go_frame
    refine wpAnyH_take (i := 7) (oi := ⟨some 15, _, _, _, _, _⟩) (v := ?_) rfl (by kernel_rfl) (by kernel_rfl) (by kernel_rfl) (fun _ _ _ h => h) (Or.inl ⟨by rfl, ?_⟩) (by assumption) ?_
    rotate_left
    · intro wq hSw; go_simp; (try with_reducible rfl)
    try go_frame
    refine wpAnyH_take (i := 8) (oi := ⟨some 16, _, _, _, _, _⟩) (v := ?_) rfl (by kernel_rfl) (by kernel_rfl) (by kernel_rfl) (fun _ _ _ h => h) (Or.inl ⟨by rfl, ?_⟩) (by assumption) ?_
    rotate_left
    · intro wq hSw; go_simp; (try with_reducible rfl)
    try go_frame
    refine wpAnyH_take (i := 9) (oi := ⟨some 17, _, _, _, _, _⟩) (v := ?_) rfl (by kernel_rfl) (by kernel_rfl) (by kernel_rfl) (fun _ _ _ h => h) (Or.inl ⟨by rfl, ?_⟩) (by assumption) ?_
    rotate_left
    · intro wq hSw; obtain ⟨⟨qz0, qc0, qf0⟩, ⟨qz1, qc1, qf1⟩, ⟨qz2, qc2, qf2⟩, ⟨qz3, qc3, qf3⟩, ⟨qz4, qc4, qf4⟩, ⟨qz5, qc5, qf5⟩, _⟩ := hSw.2; go_simp; (try with_reducible rfl)
    try go_frame
    refine wpAnyH_take (i := 10) (oi := ⟨some 18, _, _, _, _, _⟩) (v := ?_) rfl (by kernel_rfl) (by kernel_rfl) (by kernel_rfl) (fun _ _ _ h => h) (Or.inl ⟨by rfl, ?_⟩) (by assumption) ?_
    rotate_left
    · intro wq hSw; go_simp; (try with_reducible rfl)
    try go_frame
    refine wpAnyH_take (i := 12) (oi := ⟨some 20, _, _, _, _, _⟩) (v := ?_) rfl (by kernel_rfl) (by kernel_rfl) (by kernel_rfl) (fun _ _ _ h => h) (Or.inl ⟨by rfl, ?_⟩) (by assumption) ?_
    rotate_left
    · intro wq hSw; go_simp; (try with_reducible rfl)
    try go_frame
    refine wpAnyH_take (i := 13) (oi := ⟨some 21, _, _, _, _, _⟩) (v := ?_) rfl (by kernel_rfl) (by kernel_rfl) (by kernel_rfl) (fun _ _ _ h => h) (Or.inl ⟨by rfl, ?_⟩) (by assumption) ?_
    rotate_left
    · intro wq hSw; go_simp; (try with_reducible rfl)
    try go_frame
    refine wpAnyH_take (i := 14) (oi := ⟨some 22, _, _, _, _, _⟩) (v := ?_) rfl (by kernel_rfl) (by kernel_rfl) (by kernel_rfl) (fun _ _ _ h => h) (Or.inl ⟨by rfl, ?_⟩) (by assumption) ?_
    rotate_left
    · intro wq hSw; obtain ⟨⟨qz0, qc0, qf0⟩, ⟨qz1, qc1, qf1⟩, ⟨qz2, qc2, qf2⟩, ⟨qz3, qc3, qf3⟩, ⟨qz4, qc4, qf4⟩, ⟨qz5, qc5, qf5⟩, _⟩ := hSw.2; go_simp; (try with_reducible rfl)
    try go_frame
    refine wpAnyH_ready (rs := [6, 21]) (by kernel_rfl) (by simp) ?_
    refine AllReadyH.cons (o := ⟨some 14, _, _, _, _, _⟩) rfl (fun K hK => ?_) ?_
    go_simp
    (first | (with_reducible refine Calls.mono (M1.out _) ?_) | (with_reducible refine Calls.mono (M2.out _) ?_) | (with_reducible refine Calls.mono (OF.out _) ?_) | ((with_reducible refine Calls.mono (TT.out _ _ ?_ ?_ ?_ ?_ ?_ ?_ ?_) ?_) <;> first | (simp; done) | (simp [go_sem]; done) | skip)); rintro e w5 ⟨rfl, hb⟩
    refine hK.out _ _ (hHeld0.next hb) (fun hHeld1 => ?_)
    clear hK K
    try clear hb
    try go_frame
    refine wpAnyH_ready (rs := [11, 21]) (by kernel_rfl) (by simp) ?_
    refine AllReadyH.cons (o := ⟨some 19, _, _, _, _, _⟩) rfl (fun K hK => ?_) ?_
    go_simp
    (first | (with_reducible refine Calls.mono (M1.out _) ?_) | (with_reducible refine Calls.mono (M2.out _) ?_) | (with_reducible refine Calls.mono (OF.out _) ?_) | ((with_reducible refine Calls.mono (TT.out _ _ ?_ ?_ ?_ ?_ ?_ ?_ ?_) ?_) <;> first | (simp; done) | (simp [go_sem]; done) | skip)); rintro e w5 ⟨rfl, hb⟩
    refine hK.out _ _ (hHeld1.next hb) (fun hHeld2 => ?_)
    clear hK K
    try clear hb
    try go_frame
    refine wpAnyH_ready (rs := [15, 21]) (by kernel_rfl) (by simp) ?_
    refine AllReadyH.cons (o := ⟨some 23, _, _, _, _, _⟩) rfl (fun K hK => ?_) ?_
    go_simp
    (first | (with_reducible refine Calls.mono (M1.out _) ?_) | (with_reducible refine Calls.mono (M2.out _) ?_) | (with_reducible refine Calls.mono (OF.out _) ?_) | ((with_reducible refine Calls.mono (TT.out _ _ ?_ ?_ ?_ ?_ ?_ ?_ ?_) ?_) <;> first | (simp; done) | (simp [go_sem]; done) | skip)); rintro e w5 ⟨rfl, hb⟩
    refine hK.out _ _ (hHeld2.next hb) (fun hHeld3 => ?_)
    clear hK K
    try clear hb
    try go_frame
    refine wpAnyH_ready (rs := [16, 21]) (by kernel_rfl) (by simp) ?_
    refine AllReadyH.cons (o := ⟨some 24, _, _, _, _, _⟩) rfl (fun K hK => ?_) ?_
    go_simp
    refine hK.out _ _ (by first | exact hHeld3.alloc _ | exact (hHeld3.alloc _).drew) (fun hHeld4 => ?_)
    clear hK K
    try clear hb
    try go_frame
    refine wpAnyH_ready (rs := [17, 21]) (by kernel_rfl) (by simp) ?_
    refine AllReadyH.cons (o := ⟨some 25, _, _, _, _, _⟩) rfl (fun K hK => ?_) ?_
    go_simp
    (first | (with_reducible refine Calls.mono (M1.out _) ?_) | (with_reducible refine Calls.mono (M2.out _) ?_) | (with_reducible refine Calls.mono (OF.out _) ?_) | ((with_reducible refine Calls.mono (TT.out _ _ ?_ ?_ ?_ ?_ ?_ ?_ ?_) ?_) <;> first | (simp; done) | (simp [go_sem]; done) | skip)); rintro e w5 ⟨rfl, hb⟩
    refine hK.out _ _ (hHeld4.next hb) (fun hHeld5 => ?_)
    clear hK K
    try clear hb
    try go_frame
    refine wpAnyH_take (i := 18) (oi := ⟨some 7, _, _, _, _, _⟩) (v := ?_) rfl (by kernel_rfl) (by kernel_rfl) (by kernel_rfl) (fun _ _ _ h => h) (Or.inl ⟨by rfl, ?_⟩) (by assumption) ?_
    rotate_left
    · intro wq hSw; go_simp; (try with_reducible rfl)
    try go_frame
    refine wpAnyH_take (i := 19) (oi := ⟨some 26, _, _, _, _, _⟩) (v := ?_) rfl (by kernel_rfl) (by kernel_rfl) (by kernel_rfl) (fun _ _ _ h => h) (Or.inl ⟨by rfl, ?_⟩) (by assumption) ?_
    rotate_left
    · intro wq hSw; go_simp; (try with_reducible rfl)
    try go_frame
    refine wpAnyH_take (i := 20) (oi := ⟨some 27, _, _, _, _, _⟩) (v := ?_) rfl (by kernel_rfl) (by kernel_rfl) (by kernel_rfl) (fun _ _ _ h => h) (Or.inl ⟨by rfl, ?_⟩) (by assumption) ?_
    rotate_left
    · intro wq hSw; go_simp; (try with_reducible rfl)
    try go_frame
    refine wpAnyH_ready (rs := [21]) (by kernel_rfl) (by simp) ?_
    refine AllReadyH.cons (o := ⟨some 5, _, _, _, _, _⟩) rfl (fun K hK => ?_) AllReadyH.nil
    go_simp
    refine hK.out _ _ (by first | exact hHeld5.alloc _ | exact (hHeld5.alloc _).drew) (fun hHeld6 => ?_)
    first | have hN6 := newK2 hHeld6 | have hN6 := newK2d hHeld6
    clear hK K
    try clear hb
    try go_frame
    refine wpAnyH_ready (rs := [22]) (by kernel_rfl) (by simp) ?_
    refine AllReadyH.cons (o := ⟨none, _, _, _, _, _⟩) rfl (fun K hK => ?_) AllReadyH.nil
    have hz0 := hHeld5.1.size; obtain ⟨⟨az0, ac0, af0⟩, ⟨az1, ac1, af1⟩, ⟨az2, ac2, af2⟩, ⟨az3, ac3, af3⟩, ⟨az4, ac4, af4⟩, ⟨az5, ac5, af5⟩, _⟩ := hHeld5.2; (try simp at hz0); (try simp at az0); (try simp at az1); (try simp at az2); (try simp at az3); (try simp at az4); (try simp at az5)
    obtain ⟨⟨t0z0, t0c0, t0f0⟩, ⟨t0z1, t0c1, t0f1⟩, _⟩ := hN6.2; (try simp at t0z0); (try simp at t0c0); (try simp at t0f0); (try simp at t0z1); (try simp at t0c1); (try simp at t0f1)
    go_simp
    refine hK.out _ _ (by first | exact hHeld5.alloc _ | (repeat (first | (with_reducible exact hHeld6) | (with_reducible exact (Keeps.undrewR hHeld6)) | (refine Keeps.set ?_ (by simp <;> omega) (by simp <;> omega) _) | (with_reducible refine Keeps.drew ?_)))) (fun hHeld7 => ?_)
    clear hK K
    try clear hb
    try go_frame
    refine wpAnyH_take (i := 23) (oi := ⟨some 6, _, _, _, _, _⟩) (v := ?_) rfl (by kernel_rfl) (by kernel_rfl) (by kernel_rfl) (fun _ _ _ h => h) (Or.inl ⟨by rfl, ?_⟩) (by assumption) ?_
    rotate_left
    · intro wq hSw; go_simp; (try with_reducible rfl)
    try go_frame
    refine wpAnyH_done (by kernel_rfl) ?_ _
    have hHeld := hHeld7
    obtain ⟨⟨kz0, kc0, kf0⟩, ⟨kz1, kc1, kf1⟩, ⟨kz2, kc2, kf2⟩, ⟨kz3, kc3, kf3⟩, ⟨kz4, kc4, kf4⟩, ⟨kz5, kc5, kf5⟩, _⟩ := hHeld.2
    (go_wp2_with fail; go_meet; (case rel => exact ⟨_, rfl, by simp [go_sem, *], by simp [go_sem, *], hHeld.1, hHeld.2.2.2.2.2.1, hHeld.2.2.2.2.2.2.1, trivial⟩))
    refine AllReadyH.cons (o := ⟨some 5, _, _, _, _, _⟩) rfl (fun K hK => ?_) ?_
    go_simp
    refine hK.out _ _ (by first | exact hHeld4.alloc _ | exact (hHeld4.alloc _).drew) (fun hHeld8 => ?_)
    first | have hN8 := newK2 hHeld8 | have hN8 := newK2d hHeld8
    clear hK K
    try clear hb
    try go_frame
    refine wpAnyH_ready (rs := [17]) (by kernel_rfl) (by simp) ?_
    refine AllReadyH.cons (o := ⟨some 25, _, _, _, _, _⟩) rfl (fun K hK => ?_) AllReadyH.nil
    go_simp
    (first | (with_reducible refine Calls.mono (M1.out _) ?_) | (with_reducible refine Calls.mono (M2.out _) ?_) | (with_reducible refine Calls.mono (OF.out _) ?_) | ((with_reducible refine Calls.mono (TT.out _ _ ?_ ?_ ?_ ?_ ?_ ?_ ?_) ?_) <;> first | (simp; done) | (simp [go_sem]; done) | skip)); rintro e w5 ⟨rfl, hb⟩
    refine hK.out _ _ (hHeld8.next hb) (fun hHeld9 => ?_)
    replace hN8 := hN8.next hb
    clear hK K
    try clear hb
    try go_frame
    refine wpAnyH_take (i := 18) (oi := ⟨some 7, _, _, _, _, _⟩) (v := ?_) rfl (by kernel_rfl) (by kernel_rfl) (by kernel_rfl) (fun _ _ _ h => h) (Or.inl ⟨by rfl, ?_⟩) (by assumption) ?_
    rotate_left
    · intro wq hSw; go_simp; (try with_reducible rfl)
    try go_frame
    refine wpAnyH_take (i := 19) (oi := ⟨some 26, _, _, _, _, _⟩) (v := ?_) rfl (by kernel_rfl) (by kernel_rfl) (by kernel_rfl) (fun _ _ _ h => h) (Or.inl ⟨by rfl, ?_⟩) (by assumption) ?_
    rotate_left
    · intro wq hSw; go_simp; (try with_reducible rfl)
    try go_frame
    refine wpAnyH_take (i := 20) (oi := ⟨some 27, _, _, _, _, _⟩) (v := ?_) rfl (by kernel_rfl) (by kernel_rfl) (by kernel_rfl) (fun _ _ _ h => h) (Or.inl ⟨by rfl, ?_⟩) (by assumption) ?_
    rotate_left
    · intro wq hSw; go_simp; (try with_reducible rfl)
    try go_frame
    refine wpAnyH_ready (rs := [22]) (by kernel_rfl) (by simp) ?_
    refine AllReadyH.cons (o := ⟨none, _, _, _, _, _⟩) rfl (fun K hK => ?_) AllReadyH.nil
    have hz0 := hHeld4.1.size; obtain ⟨⟨az0, ac0, af0⟩, ⟨az1, ac1, af1⟩, ⟨az2, ac2, af2⟩, ⟨az3, ac3, af3⟩, ⟨az4, ac4, af4⟩, ⟨az5, ac5, af5⟩, _⟩ := hHeld4.2; (try simp at hz0); (try simp at az0); (try simp at az1); (try simp at az2); (try simp at az3); (try simp at az4); (try simp at az5)
    obtain ⟨⟨t0z0, t0c0, t0f0⟩, ⟨t0z1, t0c1, t0f1⟩, _⟩ := hN8.2; (try simp at t0z0); (try simp at t0c0); (try simp at t0f0); (try simp at t0z1); (try simp at t0c1); (try simp at t0f1)
    go_simp
    refine hK.out _ _ (by first | exact hHeld4.alloc _ | (repeat (first | (with_reducible exact hHeld9) | (with_reducible exact (Keeps.undrewR hHeld9)) | (refine Keeps.set ?_ (by simp <;> omega) (by simp <;> omega) _) | (with_reducible refine Keeps.drew ?_)))) (fun hHeld10 => ?_)
    clear hK K
    try clear hb
    try go_frame
    refine wpAnyH_take (i := 23) (oi := ⟨some 6, _, _, _, _, _⟩) (v := ?_) rfl (by kernel_rfl) (by kernel_rfl) (by kernel_rfl) (fun _ _ _ h => h) (Or.inl ⟨by rfl, ?_⟩) (by assumption) ?_
    rotate_left
    · intro wq hSw; go_simp; (try with_reducible rfl)
    try go_frame
    refine wpAnyH_done (by kernel_rfl) ?_ _
    have hHeld := hHeld10
    obtain ⟨⟨kz0, kc0, kf0⟩, ⟨kz1, kc1, kf1⟩, ⟨kz2, kc2, kf2⟩, ⟨kz3, kc3, kf3⟩, ⟨kz4, kc4, kf4⟩, ⟨kz5, kc5, kf5⟩, _⟩ := hHeld.2
    (go_wp2_with fail; go_meet; (case rel => exact ⟨_, rfl, by simp [go_sem, *], by simp [go_sem, *], hHeld.1, hHeld.2.2.2.2.2.1, hHeld.2.2.2.2.2.2.1, trivial⟩))
    exact AllReadyH.nil
    refine AllReadyH.cons (o := ⟨some 5, _, _, _, _, _⟩) rfl (fun K hK => ?_) ?_
    go_simp
    refine hK.out _ _ (by first | exact hHeld3.alloc _ | exact (hHeld3.alloc _).drew) (fun hHeld11 => ?_)
    first | have hN11 := newK2 hHeld11 | have hN11 := newK2d hHeld11
    clear hK K
    try clear hb
    try go_frame
    refine wpAnyH_ready (rs := [16]) (by kernel_rfl) (by simp) ?_
    refine AllReadyH.cons (o := ⟨some 24, _, _, _, _, _⟩) rfl (fun K hK => ?_) AllReadyH.nil
    go_simp
    refine hK.out _ _ (by first | exact hHeld11.alloc _ | exact (hHeld11.alloc _).drew) (fun hHeld12 => ?_)
    first | replace hN11 := hN11.allocAs hHeld12 | replace hN11 := hN11.allocAsD hHeld12
    clear hK K
    try clear hb
    try go_frame
    refine wpAnyH_ready (rs := [17]) (by kernel_rfl) (by simp) ?_
    refine AllReadyH.cons (o := ⟨some 25, _, _, _, _, _⟩) rfl (fun K hK => ?_) AllReadyH.nil
    go_simp
    (first | (with_reducible refine Calls.mono (M1.out _) ?_) | (with_reducible refine Calls.mono (M2.out _) ?_) | (with_reducible refine Calls.mono (OF.out _) ?_) | ((with_reducible refine Calls.mono (TT.out _ _ ?_ ?_ ?_ ?_ ?_ ?_ ?_) ?_) <;> first | (simp; done) | (simp [go_sem]; done) | skip)); rintro e w5 ⟨rfl, hb⟩
    refine hK.out _ _ (hHeld12.next hb) (fun hHeld13 => ?_)
    replace hN11 := hN11.next hb
    clear hK K
    try clear hb
    try go_frame
    refine wpAnyH_take (i := 18) (oi := ⟨some 7, _, _, _, _, _⟩) (v := ?_) rfl (by kernel_rfl) (by kernel_rfl) (by kernel_rfl) (fun _ _ _ h => h) (Or.inl ⟨by rfl, ?_⟩) (by assumption) ?_
    rotate_left
    · intro wq hSw; go_simp; (try with_reducible rfl)
    try go_frame
    refine wpAnyH_take (i := 19) (oi := ⟨some 26, _, _, _, _, _⟩) (v := ?_) rfl (by kernel_rfl) (by kernel_rfl) (by kernel_rfl) (fun _ _ _ h => h) (Or.inl ⟨by rfl, ?_⟩) (by assumption) ?_
    rotate_left
    · intro wq hSw; go_simp; (try with_reducible rfl)
    try go_frame
    refine wpAnyH_take (i := 20) (oi := ⟨some 27, _, _, _, _, _⟩) (v := ?_) rfl (by kernel_rfl) (by kernel_rfl) (by kernel_rfl) (fun _ _ _ h => h) (Or.inl ⟨by rfl, ?_⟩) (by assumption) ?_
    rotate_left
    · intro wq hSw; go_simp; (try with_reducible rfl)
    try go_frame
    refine wpAnyH_ready (rs := [22]) (by kernel_rfl) (by simp) ?_
    refine AllReadyH.cons (o := ⟨none, _, _, _, _, _⟩) rfl (fun K hK => ?_) AllReadyH.nil
    have hz0 := hHeld3.1.size; obtain ⟨⟨az0, ac0, af0⟩, ⟨az1, ac1, af1⟩, ⟨az2, ac2, af2⟩, ⟨az3, ac3, af3⟩, ⟨az4, ac4, af4⟩, ⟨az5, ac5, af5⟩, _⟩ := hHeld3.2; (try simp at hz0); (try simp at az0); (try simp at az1); (try simp at az2); (try simp at az3); (try simp at az4); (try simp at az5)
    obtain ⟨⟨t0z0, t0c0, t0f0⟩, ⟨t0z1, t0c1, t0f1⟩, _⟩ := hN11.2; (try simp at t0z0); (try simp at t0c0); (try simp at t0f0); (try simp at t0z1); (try simp at t0c1); (try simp at t0f1)
    go_simp
    refine hK.out _ _ (by first | exact hHeld3.alloc _ | (repeat (first | (with_reducible exact hHeld13) | (with_reducible exact (Keeps.undrewR hHeld13)) | (refine Keeps.set ?_ (by simp <;> omega) (by simp <;> omega) _) | (with_reducible refine Keeps.drew ?_)))) (fun hHeld14 => ?_)
    clear hK K
    try clear hb
    try go_frame
    refine wpAnyH_take (i := 23) (oi := ⟨some 6, _, _, _, _, _⟩) (v := ?_) rfl (by kernel_rfl) (by kernel_rfl) (by kernel_rfl) (fun _ _ _ h => h) (Or.inl ⟨by rfl, ?_⟩) (by assumption) ?_
    rotate_left
    · intro wq hSw; go_simp; (try with_reducible rfl)
    try go_frame
    refine wpAnyH_done (by kernel_rfl) ?_ _
    have hHeld := hHeld14
    obtain ⟨⟨kz0, kc0, kf0⟩, ⟨kz1, kc1, kf1⟩, ⟨kz2, kc2, kf2⟩, ⟨kz3, kc3, kf3⟩, ⟨kz4, kc4, kf4⟩, ⟨kz5, kc5, kf5⟩, _⟩ := hHeld.2
    (go_wp2_with fail; go_meet; (case rel => exact ⟨_, rfl, by simp [go_sem, *], by simp [go_sem, *], hHeld.1, hHeld.2.2.2.2.2.1, hHeld.2.2.2.2.2.2.1, trivial⟩))
    exact AllReadyH.nil
    refine AllReadyH.cons (o := ⟨some 5, _, _, _, _, _⟩) rfl (fun K hK => ?_) ?_
    go_simp
    refine hK.out _ _ (by first | exact hHeld2.alloc _ | exact (hHeld2.alloc _).drew) (fun hHeld15 => ?_)
    first | have hN15 := newK2 hHeld15 | have hN15 := newK2d hHeld15
    clear hK K
    try clear hb
    try go_frame
    refine wpAnyH_ready (rs := [15]) (by kernel_rfl) (by simp) ?_
    refine AllReadyH.cons (o := ⟨some 23, _, _, _, _, _⟩) rfl (fun K hK => ?_) AllReadyH.nil
    go_simp
    (first | (with_reducible refine Calls.mono (M1.out _) ?_) | (with_reducible refine Calls.mono (M2.out _) ?_) | (with_reducible refine Calls.mono (OF.out _) ?_) | ((with_reducible refine Calls.mono (TT.out _ _ ?_ ?_ ?_ ?_ ?_ ?_ ?_) ?_) <;> first | (simp; done) | (simp [go_sem]; done) | skip)); rintro e w5 ⟨rfl, hb⟩
    refine hK.out _ _ (hHeld15.next hb) (fun hHeld16 => ?_)
    replace hN15 := hN15.next hb
    clear hK K
    try clear hb
    try go_frame
    refine wpAnyH_ready (rs := [16]) (by kernel_rfl) (by simp) ?_
    refine AllReadyH.cons (o := ⟨some 24, _, _, _, _, _⟩) rfl (fun K hK => ?_) AllReadyH.nil
    go_simp
    refine hK.out _ _ (by first | exact hHeld16.alloc _ | exact (hHeld16.alloc _).drew) (fun hHeld17 => ?_)
    first | replace hN15 := hN15.allocAs hHeld17 | replace hN15 := hN15.allocAsD hHeld17
    clear hK K
    try clear hb
    try go_frame
    refine wpAnyH_ready (rs := [17]) (by kernel_rfl) (by simp) ?_
    refine AllReadyH.cons (o := ⟨some 25, _, _, _, _, _⟩) rfl (fun K hK => ?_) AllReadyH.nil
    go_simp
    (first | (with_reducible refine Calls.mono (M1.out _) ?_) | (with_reducible refine Calls.mono (M2.out _) ?_) | (with_reducible refine Calls.mono (OF.out _) ?_) | ((with_reducible refine Calls.mono (TT.out _ _ ?_ ?_ ?_ ?_ ?_ ?_ ?_) ?_) <;> first | (simp; done) | (simp [go_sem]; done) | skip)); rintro e w5 ⟨rfl, hb⟩
    refine hK.out _ _ (hHeld17.next hb) (fun hHeld18 => ?_)
    replace hN15 := hN15.next hb
    clear hK K
    try clear hb
    try go_frame
    refine wpAnyH_take (i := 18) (oi := ⟨some 7, _, _, _, _, _⟩) (v := ?_) rfl (by kernel_rfl) (by kernel_rfl) (by kernel_rfl) (fun _ _ _ h => h) (Or.inl ⟨by rfl, ?_⟩) (by assumption) ?_
    rotate_left
    · intro wq hSw; go_simp; (try with_reducible rfl)
    try go_frame
    refine wpAnyH_take (i := 19) (oi := ⟨some 26, _, _, _, _, _⟩) (v := ?_) rfl (by kernel_rfl) (by kernel_rfl) (by kernel_rfl) (fun _ _ _ h => h) (Or.inl ⟨by rfl, ?_⟩) (by assumption) ?_
    rotate_left
    · intro wq hSw; go_simp; (try with_reducible rfl)
    try go_frame
    refine wpAnyH_take (i := 20) (oi := ⟨some 27, _, _, _, _, _⟩) (v := ?_) rfl (by kernel_rfl) (by kernel_rfl) (by kernel_rfl) (fun _ _ _ h => h) (Or.inl ⟨by rfl, ?_⟩) (by assumption) ?_
    rotate_left
    · intro wq hSw; go_simp; (try with_reducible rfl)
    try go_frame
    refine wpAnyH_ready (rs := [22]) (by kernel_rfl) (by simp) ?_
    refine AllReadyH.cons (o := ⟨none, _, _, _, _, _⟩) rfl (fun K hK => ?_) AllReadyH.nil
    have hz0 := hHeld2.1.size; obtain ⟨⟨az0, ac0, af0⟩, ⟨az1, ac1, af1⟩, ⟨az2, ac2, af2⟩, ⟨az3, ac3, af3⟩, ⟨az4, ac4, af4⟩, ⟨az5, ac5, af5⟩, _⟩ := hHeld2.2; (try simp at hz0); (try simp at az0); (try simp at az1); (try simp at az2); (try simp at az3); (try simp at az4); (try simp at az5)
    obtain ⟨⟨t0z0, t0c0, t0f0⟩, ⟨t0z1, t0c1, t0f1⟩, _⟩ := hN15.2; (try simp at t0z0); (try simp at t0c0); (try simp at t0f0); (try simp at t0z1); (try simp at t0c1); (try simp at t0f1)
    go_simp
    refine hK.out _ _ (by first | exact hHeld2.alloc _ | (repeat (first | (with_reducible exact hHeld18) | (with_reducible exact (Keeps.undrewR hHeld18)) | (refine Keeps.set ?_ (by simp <;> omega) (by simp <;> omega) _) | (with_reducible refine Keeps.drew ?_)))) (fun hHeld19 => ?_)
    clear hK K
    try clear hb
    try go_frame
    refine wpAnyH_take (i := 23) (oi := ⟨some 6, _, _, _, _, _⟩) (v := ?_) rfl (by kernel_rfl) (by kernel_rfl) (by kernel_rfl) (fun _ _ _ h => h) (Or.inl ⟨by rfl, ?_⟩) (by assumption) ?_
    rotate_left
    · intro wq hSw; go_simp; (try with_reducible rfl)
    try go_frame
    refine wpAnyH_done (by kernel_rfl) ?_ _
    have hHeld := hHeld19
    obtain ⟨⟨kz0, kc0, kf0⟩, ⟨kz1, kc1, kf1⟩, ⟨kz2, kc2, kf2⟩, ⟨kz3, kc3, kf3⟩, ⟨kz4, kc4, kf4⟩, ⟨kz5, kc5, kf5⟩, _⟩ := hHeld.2
    (go_wp2_with fail; go_meet; (case rel => exact ⟨_, rfl, by simp [go_sem, *], by simp [go_sem, *], hHeld.1, hHeld.2.2.2.2.2.1, hHeld.2.2.2.2.2.2.1, trivial⟩))
    exact AllReadyH.nil
    refine AllReadyH.cons (o := ⟨some 5, _, _, _, _, _⟩) rfl (fun K hK => ?_) ?_
    go_simp
    refine hK.out _ _ (by first | exact hHeld1.alloc _ | exact (hHeld1.alloc _).drew) (fun hHeld20 => ?_)
    first | have hN20 := newK2 hHeld20 | have hN20 := newK2d hHeld20
    clear hK K
    try clear hb
    try go_frame
    refine wpAnyH_ready (rs := [11]) (by kernel_rfl) (by simp) ?_
    refine AllReadyH.cons (o := ⟨some 19, _, _, _, _, _⟩) rfl (fun K hK => ?_) AllReadyH.nil
    go_simp
    (first | (with_reducible refine Calls.mono (M1.out _) ?_) | (with_reducible refine Calls.mono (M2.out _) ?_) | (with_reducible refine Calls.mono (OF.out _) ?_) | ((with_reducible refine Calls.mono (TT.out _ _ ?_ ?_ ?_ ?_ ?_ ?_ ?_) ?_) <;> first | (simp; done) | (simp [go_sem]; done) | skip)); rintro e w5 ⟨rfl, hb⟩
    refine hK.out _ _ (hHeld20.next hb) (fun hHeld21 => ?_)
    replace hN20 := hN20.next hb
    clear hK K
    try clear hb
    try go_frame
    refine wpAnyH_ready (rs := [15]) (by kernel_rfl) (by simp) ?_
    refine AllReadyH.cons (o := ⟨some 23, _, _, _, _, _⟩) rfl (fun K hK => ?_) AllReadyH.nil
    go_simp
    (first | (with_reducible refine Calls.mono (M1.out _) ?_) | (with_reducible refine Calls.mono (M2.out _) ?_) | (with_reducible refine Calls.mono (OF.out _) ?_) | ((with_reducible refine Calls.mono (TT.out _ _ ?_ ?_ ?_ ?_ ?_ ?_ ?_) ?_) <;> first | (simp; done) | (simp [go_sem]; done) | skip)); rintro e w5 ⟨rfl, hb⟩
    refine hK.out _ _ (hHeld21.next hb) (fun hHeld22 => ?_)
    replace hN20 := hN20.next hb
    clear hK K
    try clear hb
    try go_frame
    refine wpAnyH_ready (rs := [16]) (by kernel_rfl) (by simp) ?_
    refine AllReadyH.cons (o := ⟨some 24, _, _, _, _, _⟩) rfl (fun K hK => ?_) AllReadyH.nil
    go_simp
    refine hK.out _ _ (by first | exact hHeld22.alloc _ | exact (hHeld22.alloc _).drew) (fun hHeld23 => ?_)
    first | replace hN20 := hN20.allocAs hHeld23 | replace hN20 := hN20.allocAsD hHeld23
    clear hK K
    try clear hb
    try go_frame
    refine wpAnyH_ready (rs := [17]) (by kernel_rfl) (by simp) ?_
    refine AllReadyH.cons (o := ⟨some 25, _, _, _, _, _⟩) rfl (fun K hK => ?_) AllReadyH.nil
    go_simp
    (first | (with_reducible refine Calls.mono (M1.out _) ?_) | (with_reducible refine Calls.mono (M2.out _) ?_) | (with_reducible refine Calls.mono (OF.out _) ?_) | ((with_reducible refine Calls.mono (TT.out _ _ ?_ ?_ ?_ ?_ ?_ ?_ ?_) ?_) <;> first | (simp; done) | (simp [go_sem]; done) | skip)); rintro e w5 ⟨rfl, hb⟩
    refine hK.out _ _ (hHeld23.next hb) (fun hHeld24 => ?_)
    replace hN20 := hN20.next hb
    clear hK K
    try clear hb
    try go_frame
    refine wpAnyH_take (i := 18) (oi := ⟨some 7, _, _, _, _, _⟩) (v := ?_) rfl (by kernel_rfl) (by kernel_rfl) (by kernel_rfl) (fun _ _ _ h => h) (Or.inl ⟨by rfl, ?_⟩) (by assumption) ?_
    rotate_left
    · intro wq hSw; go_simp; (try with_reducible rfl)
    try go_frame
    refine wpAnyH_take (i := 19) (oi := ⟨some 26, _, _, _, _, _⟩) (v := ?_) rfl (by kernel_rfl) (by kernel_rfl) (by kernel_rfl) (fun _ _ _ h => h) (Or.inl ⟨by rfl, ?_⟩) (by assumption) ?_
    rotate_left
    · intro wq hSw; go_simp; (try with_reducible rfl)
    try go_frame
    refine wpAnyH_take (i := 20) (oi := ⟨some 27, _, _, _, _, _⟩) (v := ?_) rfl (by kernel_rfl) (by kernel_rfl) (by kernel_rfl) (fun _ _ _ h => h) (Or.inl ⟨by rfl, ?_⟩) (by assumption) ?_
    rotate_left
    · intro wq hSw; go_simp; (try with_reducible rfl)
    try go_frame
    refine wpAnyH_ready (rs := [22]) (by kernel_rfl) (by simp) ?_
    refine AllReadyH.cons (o := ⟨none, _, _, _, _, _⟩) rfl (fun K hK => ?_) AllReadyH.nil
    have hz0 := hHeld1.1.size; obtain ⟨⟨az0, ac0, af0⟩, ⟨az1, ac1, af1⟩, ⟨az2, ac2, af2⟩, ⟨az3, ac3, af3⟩, ⟨az4, ac4, af4⟩, ⟨az5, ac5, af5⟩, _⟩ := hHeld1.2; (try simp at hz0); (try simp at az0); (try simp at az1); (try simp at az2); (try simp at az3); (try simp at az4); (try simp at az5)
    obtain ⟨⟨t0z0, t0c0, t0f0⟩, ⟨t0z1, t0c1, t0f1⟩, _⟩ := hN20.2; (try simp at t0z0); (try simp at t0c0); (try simp at t0f0); (try simp at t0z1); (try simp at t0c1); (try simp at t0f1)
    go_simp
    refine hK.out _ _ (by first | exact hHeld1.alloc _ | (repeat (first | (with_reducible exact hHeld24) | (with_reducible exact (Keeps.undrewR hHeld24)) | (refine Keeps.set ?_ (by simp <;> omega) (by simp <;> omega) _) | (with_reducible refine Keeps.drew ?_)))) (fun hHeld25 => ?_)
    clear hK K
    try clear hb
    try go_frame
    refine wpAnyH_take (i := 23) (oi := ⟨some 6, _, _, _, _, _⟩) (v := ?_) rfl (by kernel_rfl) (by kernel_rfl) (by kernel_rfl) (fun _ _ _ h => h) (Or.inl ⟨by rfl, ?_⟩) (by assumption) ?_
    rotate_left
    · intro wq hSw; go_simp; (try with_reducible rfl)
    try go_frame
    refine wpAnyH_done (by kernel_rfl) ?_ _
    have hHeld := hHeld25
    obtain ⟨⟨kz0, kc0, kf0⟩, ⟨kz1, kc1, kf1⟩, ⟨kz2, kc2, kf2⟩, ⟨kz3, kc3, kf3⟩, ⟨kz4, kc4, kf4⟩, ⟨kz5, kc5, kf5⟩, _⟩ := hHeld.2
    (go_wp2_with fail; go_meet; (case rel => exact ⟨_, rfl, by simp [go_sem, *], by simp [go_sem, *], hHeld.1, hHeld.2.2.2.2.2.1, hHeld.2.2.2.2.2.2.1, trivial⟩))
    exact AllReadyH.nil
    refine AllReadyH.cons (o := ⟨some 5, _, _, _, _, _⟩) rfl (fun K hK => ?_) ?_
    go_simp
    refine hK.out _ _ (by first | exact hHeld0.alloc _ | exact (hHeld0.alloc _).drew) (fun hHeld26 => ?_)
    first | have hN26 := newK2 hHeld26 | have hN26 := newK2d hHeld26
    clear hK K
    try clear hb
    try go_frame
    refine wpAnyH_ready (rs := [6]) (by kernel_rfl) (by simp) ?_
    refine AllReadyH.cons (o := ⟨some 14, _, _, _, _, _⟩) rfl (fun K hK => ?_) AllReadyH.nil
    go_simp
    (first | (with_reducible refine Calls.mono (M1.out _) ?_) | (with_reducible refine Calls.mono (M2.out _) ?_) | (with_reducible refine Calls.mono (OF.out _) ?_) | ((with_reducible refine Calls.mono (TT.out _ _ ?_ ?_ ?_ ?_ ?_ ?_ ?_) ?_) <;> first | (simp; done) | (simp [go_sem]; done) | skip)); rintro e w5 ⟨rfl, hb⟩
    refine hK.out _ _ (hHeld26.next hb) (fun hHeld27 => ?_)
    replace hN26 := hN26.next hb
    clear hK K
    try clear hb
    try go_frame
    refine wpAnyH_ready (rs := [11]) (by kernel_rfl) (by simp) ?_
    refine AllReadyH.cons (o := ⟨some 19, _, _, _, _, _⟩) rfl (fun K hK => ?_) AllReadyH.nil
    go_simp
    (first | (with_reducible refine Calls.mono (M1.out _) ?_) | (with_reducible refine Calls.mono (M2.out _) ?_) | (with_reducible refine Calls.mono (OF.out _) ?_) | ((with_reducible refine Calls.mono (TT.out _ _ ?_ ?_ ?_ ?_ ?_ ?_ ?_) ?_) <;> first | (simp; done) | (simp [go_sem]; done) | skip)); rintro e w5 ⟨rfl, hb⟩
    refine hK.out _ _ (hHeld27.next hb) (fun hHeld28 => ?_)
    replace hN26 := hN26.next hb
    clear hK K
    try clear hb
    try go_frame
    refine wpAnyH_ready (rs := [15]) (by kernel_rfl) (by simp) ?_
    refine AllReadyH.cons (o := ⟨some 23, _, _, _, _, _⟩) rfl (fun K hK => ?_) AllReadyH.nil
    go_simp
    (first | (with_reducible refine Calls.mono (M1.out _) ?_) | (with_reducible refine Calls.mono (M2.out _) ?_) | (with_reducible refine Calls.mono (OF.out _) ?_) | ((with_reducible refine Calls.mono (TT.out _ _ ?_ ?_ ?_ ?_ ?_ ?_ ?_) ?_) <;> first | (simp; done) | (simp [go_sem]; done) | skip)); rintro e w5 ⟨rfl, hb⟩
    refine hK.out _ _ (hHeld28.next hb) (fun hHeld29 => ?_)
    replace hN26 := hN26.next hb
    clear hK K
    try clear hb
    try go_frame
    refine wpAnyH_ready (rs := [16]) (by kernel_rfl) (by simp) ?_
    refine AllReadyH.cons (o := ⟨some 24, _, _, _, _, _⟩) rfl (fun K hK => ?_) AllReadyH.nil
    go_simp
    refine hK.out _ _ (by first | exact hHeld29.alloc _ | exact (hHeld29.alloc _).drew) (fun hHeld30 => ?_)
    first | replace hN26 := hN26.allocAs hHeld30 | replace hN26 := hN26.allocAsD hHeld30
    clear hK K
    try clear hb
    try go_frame
    refine wpAnyH_ready (rs := [17]) (by kernel_rfl) (by simp) ?_
    refine AllReadyH.cons (o := ⟨some 25, _, _, _, _, _⟩) rfl (fun K hK => ?_) AllReadyH.nil
    go_simp
    (first | (with_reducible refine Calls.mono (M1.out _) ?_) | (with_reducible refine Calls.mono (M2.out _) ?_) | (with_reducible refine Calls.mono (OF.out _) ?_) | ((with_reducible refine Calls.mono (TT.out _ _ ?_ ?_ ?_ ?_ ?_ ?_ ?_) ?_) <;> first | (simp; done) | (simp [go_sem]; done) | skip)); rintro e w5 ⟨rfl, hb⟩
    refine hK.out _ _ (hHeld30.next hb) (fun hHeld31 => ?_)
    replace hN26 := hN26.next hb
    clear hK K
    try clear hb
    try go_frame
    refine wpAnyH_take (i := 18) (oi := ⟨some 7, _, _, _, _, _⟩) (v := ?_) rfl (by kernel_rfl) (by kernel_rfl) (by kernel_rfl) (fun _ _ _ h => h) (Or.inl ⟨by rfl, ?_⟩) (by assumption) ?_
    rotate_left
    · intro wq hSw; go_simp; (try with_reducible rfl)
    try go_frame
    refine wpAnyH_take (i := 19) (oi := ⟨some 26, _, _, _, _, _⟩) (v := ?_) rfl (by kernel_rfl) (by kernel_rfl) (by kernel_rfl) (fun _ _ _ h => h) (Or.inl ⟨by rfl, ?_⟩) (by assumption) ?_
    rotate_left
    · intro wq hSw; go_simp; (try with_reducible rfl)
    try go_frame
    refine wpAnyH_take (i := 20) (oi := ⟨some 27, _, _, _, _, _⟩) (v := ?_) rfl (by kernel_rfl) (by kernel_rfl) (by kernel_rfl) (fun _ _ _ h => h) (Or.inl ⟨by rfl, ?_⟩) (by assumption) ?_
    rotate_left
    · intro wq hSw; go_simp; (try with_reducible rfl)
    try go_frame
    refine wpAnyH_ready (rs := [22]) (by kernel_rfl) (by simp) ?_
    refine AllReadyH.cons (o := ⟨none, _, _, _, _, _⟩) rfl (fun K hK => ?_) AllReadyH.nil
    have hz0 := hHeld0.1.size; obtain ⟨⟨az0, ac0, af0⟩, ⟨az1, ac1, af1⟩, ⟨az2, ac2, af2⟩, ⟨az3, ac3, af3⟩, ⟨az4, ac4, af4⟩, ⟨az5, ac5, af5⟩, _⟩ := hHeld0.2; (try simp at hz0); (try simp at az0); (try simp at az1); (try simp at az2); (try simp at az3); (try simp at az4); (try simp at az5)
    obtain ⟨⟨t0z0, t0c0, t0f0⟩, ⟨t0z1, t0c1, t0f1⟩, _⟩ := hN26.2; (try simp at t0z0); (try simp at t0c0); (try simp at t0f0); (try simp at t0z1); (try simp at t0c1); (try simp at t0f1)
    go_simp
    refine hK.out _ _ (by first | exact hHeld0.alloc _ | (repeat (first | (with_reducible exact hHeld31) | (with_reducible exact (Keeps.undrewR hHeld31)) | (refine Keeps.set ?_ (by simp <;> omega) (by simp <;> omega) _) | (with_reducible refine Keeps.drew ?_)))) (fun hHeld32 => ?_)
    clear hK K
    try clear hb
    try go_frame
    refine wpAnyH_take (i := 23) (oi := ⟨some 6, _, _, _, _, _⟩) (v := ?_) rfl (by kernel_rfl) (by kernel_rfl) (by kernel_rfl) (fun _ _ _ h => h) (Or.inl ⟨by rfl, ?_⟩) (by assumption) ?_
    rotate_left
    · intro wq hSw; go_simp; (try with_reducible rfl)
    try go_frame
    refine wpAnyH_done (by kernel_rfl) ?_ _
    have hHeld := hHeld32
    obtain ⟨⟨kz0, kc0, kf0⟩, ⟨kz1, kc1, kf1⟩, ⟨kz2, kc2, kf2⟩, ⟨kz3, kc3, kf3⟩, ⟨kz4, kc4, kf4⟩, ⟨kz5, kc5, kf5⟩, _⟩ := hHeld.2
    (go_wp2_with fail; go_meet; (case rel => exact ⟨_, rfl, by simp [go_sem, *], by simp [go_sem, *], hHeld.1, hHeld.2.2.2.2.2.1, hHeld.2.2.2.2.2.2.1, trivial⟩))
    exact AllReadyH.nil
  case rest =>
    obtain ⟨g, rfl, c0, c1, hHeld⟩ := hcut
    obtain ⟨⟨kz0, kc0, kf0⟩, ⟨kz1, kc1, kf1⟩, _⟩ := hHeld.2
    go_wp2_with fail
    obtain ⟨d0, d1⟩ := set2 (W := wc) (B := w.heap.size + 1) (u0 := .int .i64 z0) (u1 := .int .u64 z1) kc0 kc1
    refine bodyPost_ret (v := wideV z0 z1) (by simp [results, Tryz.results58, go_sem, d0, d1]) rfl ?_
    exact ⟨rfl, by first | (with_reducible exact hHeld.1) | (have hB := hHeld.1; have hz := hB.size; go_grown)⟩
/-- What is over D: the number, what is left, and whether it may be told. -/
def ovQ (z d : Int) : Int := if backB (z / d) then z / d else 0
def ovR (z d : Int) : Int := if backB (z / d) then z % d else 0
def ovE (z d : Int) : Int := if backB (z / d) then 0 else 5
theorem backB_int {q : Int} (h : backB q = true) : ihi q = q ∧ icode q = 0 := by
  obtain ⟨h1, h2⟩ := (backB_iff _).1 h
  unfold ihi icode
  rw [if_pos (by omega), if_pos (by omega)]
  exact ⟨rfl, rfl⟩
set_option maxRecDepth 100000 in
set_option maxHeartbeats 2000000 in
theorem over_walk (z0 z1 d q0 q1 i c m q r cd : Int) (w : World)
    (DV : ∀ W, Calls Tryz.prog 94 #[wideV z0 z1, .int .i64 d] W (Ret W (.tuple #[wideV q0 q1, .int .i64 m, .int .i64 0])))
    (IN : ∀ W, Calls Tryz.prog 95 #[wideV q0 q1] W (Ret W (.tuple #[.int .i64 i, .int .i64 c])))
    (hc : c = 0 ∧ backB i = true ∧ q = i ∧ r = m ∧ cd = 0 ∨ c = 0 ∧ backB i = false ∧ q = 0 ∧ r = 0 ∧ cd = 5 ∨ c = 5 ∧ q = 0 ∧ r = 0 ∧ cd = 5) :
    Calls Tryz.prog 78 #[wideV z0 z1, .int .i64 d] w (Ret w (.tuple #[.int .i64 q, .int .i64 r, .int .i64 cd])) := by
  have IB := fun W => isBack_any i W
  replace DV := Lib.hid DV
  replace IN := Lib.hid IN
  rcases hc with ⟨rfl, gb, rfl, rfl, rfl⟩ | ⟨rfl, gb, rfl, rfl, rfl⟩ | ⟨rfl, rfl, rfl, rfl⟩
  · rw [gb] at IB
    replace IB := Lib.hid IB
    clear gb
    go_enter Tryz.func78, Tryz.ntmps78
    go_wp2_with fail
    refine (DV.out _).mono ?_
    rintro e w1 ⟨rfl, hb⟩
    have hHeld : Keeps w [(w.heap.size, 0, .int .i64 z0), (w.heap.size, 1, .int .u64 z1)] _ := Keeps.next (by refine ⟨by go_grown, ?_⟩; simp [Cells, go_sem]) hb
    clear hb
    obtain ⟨⟨kz0, kc0, kf0⟩, ⟨kz1, kc1, kf1⟩, _⟩ := hHeld.2
    go_wp2_with fail
    refine (IN.out _).mono ?_
    rintro e w2 ⟨rfl, hb⟩
    replace hHeld := Keeps.next ((hHeld.alloc _)) hb
    clear hb kz0 kc0 kf0 kz1 kc1 kf1
    obtain ⟨⟨kz0, kc0, kf0⟩, ⟨kz1, kc1, kf1⟩, _⟩ := hHeld.2
    go_wp2_with fail
    refine (IB.out _).mono ?_
    rintro e w3 ⟨rfl, hb⟩
    replace hHeld := Keeps.next (hHeld) hb
    clear hb kz0 kc0 kf0 kz1 kc1 kf1
    obtain ⟨⟨kz0, kc0, kf0⟩, ⟨kz1, kc1, kf1⟩, _⟩ := hHeld.2
    go_wp2_with fail
    go_returns
    exact ⟨rfl, by first | (with_reducible exact hHeld.1) | (have hB := hHeld.1; have hz := hB.size; go_grown)⟩
  · rw [gb] at IB
    replace IB := Lib.hid IB
    clear gb
    go_enter Tryz.func78, Tryz.ntmps78
    go_wp2_with fail
    refine (DV.out _).mono ?_
    rintro e w1 ⟨rfl, hb⟩
    have hHeld : Keeps w [(w.heap.size, 0, .int .i64 z0), (w.heap.size, 1, .int .u64 z1)] _ := Keeps.next (by refine ⟨by go_grown, ?_⟩; simp [Cells, go_sem]) hb
    clear hb
    obtain ⟨⟨kz0, kc0, kf0⟩, ⟨kz1, kc1, kf1⟩, _⟩ := hHeld.2
    go_wp2_with fail
    refine (IN.out _).mono ?_
    rintro e w2 ⟨rfl, hb⟩
    replace hHeld := Keeps.next ((hHeld.alloc _)) hb
    clear hb kz0 kc0 kf0 kz1 kc1 kf1
    obtain ⟨⟨kz0, kc0, kf0⟩, ⟨kz1, kc1, kf1⟩, _⟩ := hHeld.2
    go_wp2_with fail
    refine (IB.out _).mono ?_
    rintro e w3 ⟨rfl, hb⟩
    replace hHeld := Keeps.next (hHeld) hb
    clear hb kz0 kc0 kf0 kz1 kc1 kf1
    obtain ⟨⟨kz0, kc0, kf0⟩, ⟨kz1, kc1, kf1⟩, _⟩ := hHeld.2
    go_wp2_with fail
    go_returns
    exact ⟨rfl, by first | (with_reducible exact hHeld.1) | (have hB := hHeld.1; have hz := hB.size; go_grown)⟩
  · clear IB
    go_enter Tryz.func78, Tryz.ntmps78
    go_wp2_with fail
    refine (DV.out _).mono ?_
    rintro e w1 ⟨rfl, hb⟩
    have hHeld : Keeps w [(w.heap.size, 0, .int .i64 z0), (w.heap.size, 1, .int .u64 z1)] _ := Keeps.next (by refine ⟨by go_grown, ?_⟩; simp [Cells, go_sem]) hb
    clear hb
    obtain ⟨⟨kz0, kc0, kf0⟩, ⟨kz1, kc1, kf1⟩, _⟩ := hHeld.2
    go_wp2_with fail
    refine (IN.out _).mono ?_
    rintro e w2 ⟨rfl, hb⟩
    replace hHeld := Keeps.next ((hHeld.alloc _)) hb
    clear hb kz0 kc0 kf0 kz1 kc1 kf1
    obtain ⟨⟨kz0, kc0, kf0⟩, ⟨kz1, kc1, kf1⟩, _⟩ := hHeld.2
    go_wp2_with fail
    go_returns
    exact ⟨rfl, by first | (with_reducible exact hHeld.1) | (have hB := hHeld.1; have hz := hB.size; go_grown)⟩
theorem over_fits (z d : Int) (hz : Fits z) (hd : 1 ≤ d) (hd2 : d ≤ 9223372036854775807) (w : World) :
    Calls Tryz.prog 78 #[wideV (rhi z) (rlo z), .int .i64 d] w (Ret w (.tuple #[.int .i64 (ovQ z d), .int .i64 (ovR z d), .int .i64 (ovE z d)])) := by
  have hq := div_fits hz (show 0 < d by omega)
  refine over_walk (rhi z) (rlo z) d (rhi (z / d)) (rlo (z / d)) (ihi (z / d)) (icode (z / d)) (z % d) _ _ _ w (fun W => ?_) (fun W => ?_) ?_
  · have := div_any (rhi z) (rlo z) d (rhi_i64 z) (rlo_u64 z) ⟨by omega, by omega⟩ W
    rw [val_r hz] at this
    have g : ¬ d < 1 := by omega
    have e : divV z d = .tuple #[wideV (rhi (z / d)) (rlo (z / d)), .int .i64 (z % d), .int .i64 0] := by unfold divV qhi qlo qrest qcode; rw [if_neg g, if_neg g, if_neg g, if_neg g]
    rw [← e]
    exact this
  · have := int_any (rhi (z / d)) (rlo (z / d)) (rhi_i64 _) (rlo_u64 _) W
    rw [val_r hq] at this
    exact this
  · unfold ovQ ovR ovE
    cases g : backB (z / d)
    · simp only [Bool.false_eq_true, if_false]
      by_cases gi : -9223372036854775808 ≤ z / d ∧ z / d ≤ 9223372036854775807
      · have e1 : ihi (z / d) = z / d := by unfold ihi; rw [if_pos gi]
        have e2 : icode (z / d) = 0 := by unfold icode; rw [if_pos gi]
        rw [e1, e2]
        exact Or.inr (Or.inl ⟨(by first | rfl | trivial), g, (by first | rfl | trivial), (by first | rfl | trivial), (by first | rfl | trivial)⟩)
      · have e2 : icode (z / d) = 5 := by unfold icode; rw [if_neg gi]
        rw [e2]
        exact Or.inr (Or.inr ⟨(by first | rfl | trivial), (by first | rfl | trivial), (by first | rfl | trivial), (by first | rfl | trivial)⟩)
    · obtain ⟨e1, e2⟩ := backB_int g
      rw [e1, e2]
      simp only [if_true]
      exact Or.inl ⟨(by first | rfl | trivial), g, (by first | rfl | trivial), (by first | rfl | trivial), (by first | rfl | trivial)⟩
attribute [irreducible] ovQ ovR ovE
/-- A line's value at a time, and why it has none. -/
def atQ (a r n d t : Int) : Int := if timeB t then ovQ (exV a r n d t) d else 0
def atE (a r n d t : Int) : Int := if timeB t then ovE (exV a r n d t) d else 2
end Go.Proofs.YtoephkglpbophaaGreat

/-
  Layer 5: At and Within. Conditions: the numbers are of 64 bits.
-/
namespace Go.Proofs.YtoephkglpbophaaGreat
open Go.RowKit

/-- What At tells. -/
def tlQ (a r n d t : Int) : Int := if lineB a r n d then atQ a r n d t else 0
def tlE (a r n d t : Int) : Int := if lineB a r n d then atE a r n d t else 150
def cmpI (x y : Int) : Int := if x = y then 0 else if x < y then -1 else 1
theorem compare_fits (x y : Int) (fx : Fits x) (fy : Fits y) (w : World) : Calls Tryz.prog 59 #[wideV (rhi x) (rlo x), wideV (rhi y) (rlo y)] w (Ret w (.int .i64 (cmpI x y))) := by
  have h := compare_any (rhi x) (rlo x) (rhi y) (rlo y) w
  have e : (if rhi x = rhi y ∧ rlo x = rlo y then (0 : Int) else if rhi x < rhi y ∨ rhi x = rhi y ∧ rlo x < rlo y then -1 else 1) = cmpI x y := by
    have e1 := val_r fx
    have e2 := val_r fy
    have u1 := rlo_u64 x
    have u2 := rlo_u64 y
    unfold val at e1 e2
    unfold U64 at u1 u2
    unfold cmpI
    generalize rhi x = a at *
    generalize rlo x = b at *
    generalize rhi y = c at *
    generalize rlo y = d at *
    by_cases g : a = c ∧ b = d
    · rw [if_pos g, if_pos (by omega)]
    · have ne : ¬ x = y := by omega
      by_cases g2 : a < c ∨ a = c ∧ b < d
      · have lt : x < y := by omega
        rw [if_neg g, if_pos g2, if_neg ne, if_pos lt]
      · have lt : ¬ x < y := by omega
        rw [if_neg g, if_neg g2, if_neg ne, if_neg lt]
  rw [← e]
  exact h
/-- What Within tells. -/
def wnB (a r n d t lo hi : Int) : Bool := (lineB a r n d && timeB t) && (decide (lo * d ≤ exV a r n d t) && decide (exV a r n d t ≤ hi * d))
theorem cmpI_le (x y : Int) : decide (cmpI x y ≤ 0) = decide (x ≤ y) := by
  unfold cmpI
  by_cases g : x = y
  · rw [if_pos g]; simp; omega
  · rw [if_neg g]
    by_cases g2 : x < y
    · rw [if_pos g2]; simp; omega
    · rw [if_neg g2]; simp; omega
set_option maxRecDepth 100000 in
set_option maxHeartbeats 2000000 in
theorem within_any (a r n d t lo hi : Int) (h1 : I64 lo) (h2 : I64 hi) (w : World) :
    Calls Tryz.prog 35 #[lnV a r n d, .int .i64 t, .int .i64 lo, .int .i64 hi] w (Ret w (.bool (wnB a r n d t lo hi))) := by
  have CK := fun W => lcheck_any a r n d W
  have IT := fun W => isTime_any t W
  unfold wnB
  by_cases h : lineB a r n d = true
  · rw [if_pos h] at CK
    rw [h]
    cases gt : timeB t
    · rw [gt] at IT
      replace IT := Lib.hid IT
      replace CK := Lib.hid CK
      simp only [Bool.and_false, Bool.false_and]
      clear gt h
      go_enter Tryz.func35, Tryz.ntmps35
      go_wp2_with fail
      refine (CK.out _).mono ?_
      rintro e w1 ⟨rfl, hb⟩
      have hHeld : Keeps w [(w.heap.size, 0, .int .i64 a), (w.heap.size, 1, .int .i64 r), (w.heap.size, 2, .int .i64 n), (w.heap.size, 3, .int .i64 d)] _ := Keeps.next (by refine ⟨by go_grown, ?_⟩; simp [Cells, go_sem]) hb
      clear hb
      obtain ⟨⟨kz0, kc0, kf0⟩, ⟨kz1, kc1, kf1⟩, ⟨kz2, kc2, kf2⟩, ⟨kz3, kc3, kf3⟩, _⟩ := hHeld.2
      go_wp2_with fail
      refine (IT.out _).mono ?_
      rintro e w2 ⟨rfl, hb⟩
      replace hHeld := Keeps.next (hHeld) hb
      clear hb kz0 kc0 kf0 kz1 kc1 kf1 kz2 kc2 kf2 kz3 kc3 kf3
      obtain ⟨⟨kz0, kc0, kf0⟩, ⟨kz1, kc1, kf1⟩, ⟨kz2, kc2, kf2⟩, ⟨kz3, kc3, kf3⟩, _⟩ := hHeld.2
      go_wp2_with fail
      go_ret
      exact ⟨rfl, hHeld.1⟩
    · have TD := fun W => timesD_any a r n d t h gt W
      have fz := (ex_fits h gt).2.2.1
      obtain ⟨_, _, i3, _⟩ := ex_bounds h gt
      have M1 := fun W => mul_any lo d h1 i3 W
      have M2 := fun W => mul_any hi d h2 i3 W
      have f1 := mul_fits h1 i3
      have f2 := mul_fits h2 i3
      rw [gt] at IT
      generalize exV a r n d t = z at *
      generalize lo * d = x at *
      generalize hi * d = y at *
      have C1 := fun W => compare_fits x z f1 fz W
      have C2 := fun W => compare_fits z y fz f2 W
      have e1 := cmpI_le x z
      have e2 := cmpI_le z y
      simp only [wz] at TD
      rw [← e1, ← e2]
      generalize cmpI x z = c1 at *
      generalize cmpI z y = c2 at *
      clear e1 e2 fz f1 f2 h gt i3
      generalize rhi z = z0 at *
      generalize rlo z = z1 at *
      generalize rhi x = x0 at *
      generalize rlo x = x1 at *
      generalize rhi y = y0 at *
      generalize rlo y = y1 at *
      replace IT := Lib.hid IT
      replace CK := Lib.hid CK
      replace TD := Lib.hid TD
      replace M1 := Lib.hid M1
      replace M2 := Lib.hid M2
      replace C1 := Lib.hid C1
      replace C2 := Lib.hid C2
      simp only [Bool.and_true, Bool.true_and]
      cases b1 : decide (c1 ≤ 0)
      · simp only [Bool.false_and]
        go_enter Tryz.func35, Tryz.ntmps35
        go_wp2_with fail
        refine (CK.out _).mono ?_
        rintro e w1 ⟨rfl, hb⟩
        have hHeld : Keeps w [(w.heap.size, 0, .int .i64 a), (w.heap.size, 1, .int .i64 r), (w.heap.size, 2, .int .i64 n), (w.heap.size, 3, .int .i64 d)] _ := Keeps.next (by refine ⟨by go_grown, ?_⟩; simp [Cells, go_sem]) hb
        clear hb
        obtain ⟨⟨kz0, kc0, kf0⟩, ⟨kz1, kc1, kf1⟩, ⟨kz2, kc2, kf2⟩, ⟨kz3, kc3, kf3⟩, _⟩ := hHeld.2
        go_wp2_with fail
        refine (IT.out _).mono ?_
        rintro e w2 ⟨rfl, hb⟩
        replace hHeld := Keeps.next (hHeld) hb
        clear hb kz0 kc0 kf0 kz1 kc1 kf1 kz2 kc2 kf2 kz3 kc3 kf3
        obtain ⟨⟨kz0, kc0, kf0⟩, ⟨kz1, kc1, kf1⟩, ⟨kz2, kc2, kf2⟩, ⟨kz3, kc3, kf3⟩, _⟩ := hHeld.2
        go_wp2_with fail
        refine (TD.out _).mono ?_
        rintro e w3 ⟨rfl, hb⟩
        replace hHeld := Keeps.next (hHeld) hb
        clear hb kz0 kc0 kf0 kz1 kc1 kf1 kz2 kc2 kf2 kz3 kc3 kf3
        obtain ⟨⟨kz0, kc0, kf0⟩, ⟨kz1, kc1, kf1⟩, ⟨kz2, kc2, kf2⟩, ⟨kz3, kc3, kf3⟩, _⟩ := hHeld.2
        go_wp2_with fail
        refine region_keeps (w0 := w) (L := [(w.heap.size, 0, .int .i64 a), (w.heap.size, 1, .int .i64 r), (w.heap.size, 2, .int .i64 n), (w.heap.size, 3, .int .i64 d), (w3.heap.size, 0, .int .i64 z0), (w3.heap.size, 1, .int .u64 z1)]) (by kernel_rfl) ((hHeld.alloc _).app (newK2 (hHeld.alloc _))) (fun hHeld0 => ?_)
        refine wpAnyH_take (i := 0) (oi := ⟨some 22, _, _, _, _, _⟩) (v := ?_) rfl (by kernel_rfl) (by kernel_rfl) (by kernel_rfl) (fun _ _ _ h => h) (Or.inl ⟨by rfl, ?_⟩) (by assumption) ?_
        rotate_left
        · intro wq hSw; go_simp; (try with_reducible rfl)
        try go_frame
        refine wpAnyH_take (i := 1) (oi := ⟨some 23, _, _, _, _, _⟩) (v := ?_) rfl (by kernel_rfl) (by kernel_rfl) (by kernel_rfl) (fun _ _ _ h => h) (Or.inl ⟨by rfl, ?_⟩) (by assumption) ?_
        rotate_left
        · intro wq hSw; go_simp; (try with_reducible rfl)
        try go_frame
        refine wpAnyH_take (i := 2) (oi := ⟨some 24, _, _, _, _, _⟩) (v := ?_) rfl (by kernel_rfl) (by kernel_rfl) (by kernel_rfl) (fun _ _ _ h => h) (Or.inl ⟨by rfl, ?_⟩) (by assumption) ?_
        rotate_left
        · intro wq hSw; obtain ⟨⟨qz0, qc0, qf0⟩, ⟨qz1, qc1, qf1⟩, ⟨qz2, qc2, qf2⟩, ⟨qz3, qc3, qf3⟩, ⟨qz4, qc4, qf4⟩, ⟨qz5, qc5, qf5⟩, _⟩ := hSw.2; go_simp; (try with_reducible rfl)
        try go_frame
        refine wpAnyH_take (i := 4) (oi := ⟨some 26, _, _, _, _, _⟩) (v := ?_) rfl (by kernel_rfl) (by kernel_rfl) (by kernel_rfl) (fun _ _ _ h => h) (Or.inl ⟨by rfl, ?_⟩) (by assumption) ?_
        rotate_left
        · intro wq hSw; obtain ⟨⟨qz0, qc0, qf0⟩, ⟨qz1, qc1, qf1⟩, ⟨qz2, qc2, qf2⟩, ⟨qz3, qc3, qf3⟩, ⟨qz4, qc4, qf4⟩, ⟨qz5, qc5, qf5⟩, _⟩ := hSw.2; go_simp; (try with_reducible rfl)
        try go_frame
        refine wpAnyH_ready (rs := [3]) (by kernel_rfl) (by simp) ?_
        refine AllReadyH.cons (o := ⟨some 25, _, _, _, _, _⟩) rfl (fun K hK => ?_) AllReadyH.nil
        go_simp
        (first | (with_reducible refine Calls.mono (M1.out _) ?_) | (with_reducible refine Calls.mono (C1.out _) ?_)); rintro e w5 ⟨rfl, hb⟩
        refine hK.out _ _ (hHeld0.next hb) (fun hHeld1 => ?_)
        clear hK K
        try clear hb
        try go_frame
        refine wpAnyH_ready (rs := [5]) (by kernel_rfl) (by simp) ?_
        refine AllReadyH.cons (o := ⟨some 27, _, _, _, _, _⟩) rfl (fun K hK => ?_) AllReadyH.nil
        go_simp
        (first | (with_reducible refine Calls.mono (M1.out _) ?_) | (with_reducible refine Calls.mono (C1.out _) ?_)); rintro e w5 ⟨rfl, hb⟩
        refine hK.out _ _ (hHeld1.next hb) (fun hHeld2 => ?_)
        clear hK K
        try clear hb
        try go_frame
        refine wpAnyH_take (i := 6) (oi := ⟨some 28, _, _, _, _, _⟩) (v := ?_) rfl (by kernel_rfl) (by kernel_rfl) (by kernel_rfl) (fun _ _ _ h => h) (Or.inl ⟨by rfl, ?_⟩) (by assumption) ?_
        rotate_left
        · intro wq hSw; go_simp; (try with_reducible rfl)
        try go_frame
        refine wpAnyH_take (i := 7) (oi := ⟨some 29, _, _, _, _, _⟩) (v := ?_) rfl (by kernel_rfl) (by kernel_rfl) (by kernel_rfl) (fun _ _ _ h => h) (Or.inl ⟨by rfl, ?_⟩) (by assumption) ?_
        rotate_left
        · intro wq hSw; go_simp; (try with_reducible rfl)
        try go_frame
        refine wpAnyH_take (i := 8) (oi := ⟨some 30, _, _, _, _, _⟩) (v := undef) rfl (by kernel_rfl) (by kernel_rfl) (by kernel_rfl) (fun _ _ _ h => h) (Or.inr ⟨by rfl, rfl⟩) (by assumption) ?_
        try go_frame
        refine wpAnyH_take (i := 9) (oi := ⟨some 31, _, _, _, _, _⟩) (v := undef) rfl (by kernel_rfl) (by kernel_rfl) (by kernel_rfl) (fun _ _ _ h => h) (Or.inr ⟨by rfl, rfl⟩) (by assumption) ?_
        try go_frame
        refine wpAnyH_take (i := 10) (oi := ⟨some 32, _, _, _, _, _⟩) (v := undef) rfl (by kernel_rfl) (by kernel_rfl) (by kernel_rfl) (fun _ _ _ h => h) (Or.inr ⟨by rfl, rfl⟩) (by assumption) ?_
        try go_frame
        refine wpAnyH_take (i := 11) (oi := ⟨some 33, _, _, _, _, _⟩) (v := undef) rfl (by kernel_rfl) (by kernel_rfl) (by kernel_rfl) (fun _ _ _ h => h) (Or.inr ⟨by rfl, rfl⟩) (by assumption) ?_
        try go_frame
        refine wpAnyH_take (i := 12) (oi := ⟨some 34, _, _, _, _, _⟩) (v := undef) rfl (by kernel_rfl) (by kernel_rfl) (by kernel_rfl) (fun _ _ _ h => h) (Or.inr ⟨by rfl, rfl⟩) (by assumption) ?_
        try go_frame
        refine wpAnyH_take (i := 13) (oi := ⟨some 35, _, _, _, _, _⟩) (v := undef) rfl (by kernel_rfl) (by kernel_rfl) (by kernel_rfl) (fun _ _ _ h => h) (Or.inr ⟨by rfl, rfl⟩) (by assumption) ?_
        try go_frame
        refine wpAnyH_take (i := 14) (oi := ⟨some 36, _, _, _, _, _⟩) (v := undef) rfl (by kernel_rfl) (by kernel_rfl) (by kernel_rfl) (fun _ _ _ h => h) (Or.inr ⟨by rfl, rfl⟩) (by assumption) ?_
        try go_frame
        refine wpAnyH_take (i := 15) (oi := ⟨some 37, _, _, _, _, _⟩) (v := ?_) rfl (by kernel_rfl) (by kernel_rfl) (by kernel_rfl) (fun _ _ _ h => h) (Or.inl ⟨by rfl, ?_⟩) (by assumption) ?_
        rotate_left
        · intro wq hSw; go_simp; (try with_reducible rfl)
        try go_frame
        refine wpAnyH_take (i := 16) (oi := ⟨some 8, _, _, _, _, _⟩) (v := ?_) rfl (by kernel_rfl) (by kernel_rfl) (by kernel_rfl) (fun _ _ _ h => h) (Or.inl ⟨by rfl, ?_⟩) (by assumption) ?_
        rotate_left
        · intro wq hSw; go_simp; (try with_reducible rfl)
        try go_frame
        refine wpAnyH_done (by kernel_rfl) ?_ _
        have hHeld := hHeld2
        obtain ⟨⟨kz0, kc0, kf0⟩, ⟨kz1, kc1, kf1⟩, ⟨kz2, kc2, kf2⟩, ⟨kz3, kc3, kf3⟩, ⟨kz4, kc4, kf4⟩, ⟨kz5, kc5, kf5⟩, _⟩ := hHeld.2
        all_goals
          go_wp2_with fail
          go_ret
          exact ⟨rfl, hHeld.1⟩
      · simp only [Bool.true_and]
        go_enter Tryz.func35, Tryz.ntmps35
        go_wp2_with fail
        refine (CK.out _).mono ?_
        rintro e w1 ⟨rfl, hb⟩
        have hHeld : Keeps w [(w.heap.size, 0, .int .i64 a), (w.heap.size, 1, .int .i64 r), (w.heap.size, 2, .int .i64 n), (w.heap.size, 3, .int .i64 d)] _ := Keeps.next (by refine ⟨by go_grown, ?_⟩; simp [Cells, go_sem]) hb
        clear hb
        obtain ⟨⟨kz0, kc0, kf0⟩, ⟨kz1, kc1, kf1⟩, ⟨kz2, kc2, kf2⟩, ⟨kz3, kc3, kf3⟩, _⟩ := hHeld.2
        go_wp2_with fail
        refine (IT.out _).mono ?_
        rintro e w2 ⟨rfl, hb⟩
        replace hHeld := Keeps.next (hHeld) hb
        clear hb kz0 kc0 kf0 kz1 kc1 kf1 kz2 kc2 kf2 kz3 kc3 kf3
        obtain ⟨⟨kz0, kc0, kf0⟩, ⟨kz1, kc1, kf1⟩, ⟨kz2, kc2, kf2⟩, ⟨kz3, kc3, kf3⟩, _⟩ := hHeld.2
        go_wp2_with fail
        refine (TD.out _).mono ?_
        rintro e w3 ⟨rfl, hb⟩
        replace hHeld := Keeps.next (hHeld) hb
        clear hb kz0 kc0 kf0 kz1 kc1 kf1 kz2 kc2 kf2 kz3 kc3 kf3
        obtain ⟨⟨kz0, kc0, kf0⟩, ⟨kz1, kc1, kf1⟩, ⟨kz2, kc2, kf2⟩, ⟨kz3, kc3, kf3⟩, _⟩ := hHeld.2
        go_wp2_with fail
        refine region_keeps (w0 := w) (L := [(w.heap.size, 0, .int .i64 a), (w.heap.size, 1, .int .i64 r), (w.heap.size, 2, .int .i64 n), (w.heap.size, 3, .int .i64 d), (w3.heap.size, 0, .int .i64 z0), (w3.heap.size, 1, .int .u64 z1)]) (by kernel_rfl) ((hHeld.alloc _).app (newK2 (hHeld.alloc _))) (fun hHeld0 => ?_)
        refine wpAnyH_take (i := 0) (oi := ⟨some 22, _, _, _, _, _⟩) (v := ?_) rfl (by kernel_rfl) (by kernel_rfl) (by kernel_rfl) (fun _ _ _ h => h) (Or.inl ⟨by rfl, ?_⟩) (by assumption) ?_
        rotate_left
        · intro wq hSw; go_simp; (try with_reducible rfl)
        try go_frame
        refine wpAnyH_take (i := 1) (oi := ⟨some 23, _, _, _, _, _⟩) (v := ?_) rfl (by kernel_rfl) (by kernel_rfl) (by kernel_rfl) (fun _ _ _ h => h) (Or.inl ⟨by rfl, ?_⟩) (by assumption) ?_
        rotate_left
        · intro wq hSw; go_simp; (try with_reducible rfl)
        try go_frame
        refine wpAnyH_take (i := 2) (oi := ⟨some 24, _, _, _, _, _⟩) (v := ?_) rfl (by kernel_rfl) (by kernel_rfl) (by kernel_rfl) (fun _ _ _ h => h) (Or.inl ⟨by rfl, ?_⟩) (by assumption) ?_
        rotate_left
        · intro wq hSw; obtain ⟨⟨qz0, qc0, qf0⟩, ⟨qz1, qc1, qf1⟩, ⟨qz2, qc2, qf2⟩, ⟨qz3, qc3, qf3⟩, ⟨qz4, qc4, qf4⟩, ⟨qz5, qc5, qf5⟩, _⟩ := hSw.2; go_simp; (try with_reducible rfl)
        try go_frame
        refine wpAnyH_take (i := 4) (oi := ⟨some 26, _, _, _, _, _⟩) (v := ?_) rfl (by kernel_rfl) (by kernel_rfl) (by kernel_rfl) (fun _ _ _ h => h) (Or.inl ⟨by rfl, ?_⟩) (by assumption) ?_
        rotate_left
        · intro wq hSw; obtain ⟨⟨qz0, qc0, qf0⟩, ⟨qz1, qc1, qf1⟩, ⟨qz2, qc2, qf2⟩, ⟨qz3, qc3, qf3⟩, ⟨qz4, qc4, qf4⟩, ⟨qz5, qc5, qf5⟩, _⟩ := hSw.2; go_simp; (try with_reducible rfl)
        try go_frame
        refine wpAnyH_ready (rs := [3]) (by kernel_rfl) (by simp) ?_
        refine AllReadyH.cons (o := ⟨some 25, _, _, _, _, _⟩) rfl (fun K hK => ?_) AllReadyH.nil
        go_simp
        (first | (with_reducible refine Calls.mono (M1.out _) ?_) | (with_reducible refine Calls.mono (M2.out _) ?_) | (with_reducible refine Calls.mono (C1.out _) ?_) | (with_reducible refine Calls.mono (C2.out _) ?_)); rintro e w5 ⟨rfl, hb⟩
        refine hK.out _ _ (hHeld0.next hb) (fun hHeld1 => ?_)
        clear hK K
        try clear hb
        try go_frame
        refine wpAnyH_ready (rs := [5]) (by kernel_rfl) (by simp) ?_
        refine AllReadyH.cons (o := ⟨some 27, _, _, _, _, _⟩) rfl (fun K hK => ?_) AllReadyH.nil
        go_simp
        (first | (with_reducible refine Calls.mono (M1.out _) ?_) | (with_reducible refine Calls.mono (M2.out _) ?_) | (with_reducible refine Calls.mono (C1.out _) ?_) | (with_reducible refine Calls.mono (C2.out _) ?_)); rintro e w5 ⟨rfl, hb⟩
        refine hK.out _ _ (hHeld1.next hb) (fun hHeld2 => ?_)
        clear hK K
        try clear hb
        try go_frame
        refine wpAnyH_take (i := 6) (oi := ⟨some 28, _, _, _, _, _⟩) (v := ?_) rfl (by kernel_rfl) (by kernel_rfl) (by kernel_rfl) (fun _ _ _ h => h) (Or.inl ⟨by rfl, ?_⟩) (by assumption) ?_
        rotate_left
        · intro wq hSw; go_simp; (try with_reducible rfl)
        try go_frame
        refine wpAnyH_take (i := 7) (oi := ⟨some 29, _, _, _, _, _⟩) (v := ?_) rfl (by kernel_rfl) (by kernel_rfl) (by kernel_rfl) (fun _ _ _ h => h) (Or.inl ⟨by rfl, ?_⟩) (by assumption) ?_
        rotate_left
        · intro wq hSw; go_simp; (try with_reducible rfl)
        try go_frame
        refine wpAnyH_take (i := 8) (oi := ⟨some 30, _, _, _, _, _⟩) (v := ?_) rfl (by kernel_rfl) (by kernel_rfl) (by kernel_rfl) (fun _ _ _ h => h) (Or.inl ⟨by rfl, ?_⟩) (by assumption) ?_
        rotate_left
        · intro wq hSw; obtain ⟨⟨qz0, qc0, qf0⟩, ⟨qz1, qc1, qf1⟩, ⟨qz2, qc2, qf2⟩, ⟨qz3, qc3, qf3⟩, ⟨qz4, qc4, qf4⟩, ⟨qz5, qc5, qf5⟩, _⟩ := hSw.2; go_simp; (try with_reducible rfl)
        try go_frame
        refine wpAnyH_take (i := 9) (oi := ⟨some 31, _, _, _, _, _⟩) (v := ?_) rfl (by kernel_rfl) (by kernel_rfl) (by kernel_rfl) (fun _ _ _ h => h) (Or.inl ⟨by rfl, ?_⟩) (by assumption) ?_
        rotate_left
        · intro wq hSw; go_simp; (try with_reducible rfl)
        try go_frame
        refine wpAnyH_take (i := 10) (oi := ⟨some 32, _, _, _, _, _⟩) (v := ?_) rfl (by kernel_rfl) (by kernel_rfl) (by kernel_rfl) (fun _ _ _ h => h) (Or.inl ⟨by rfl, ?_⟩) (by assumption) ?_
        rotate_left
        · intro wq hSw; go_simp; (try with_reducible rfl)
        try go_frame
        refine wpAnyH_take (i := 11) (oi := ⟨some 33, _, _, _, _, _⟩) (v := ?_) rfl (by kernel_rfl) (by kernel_rfl) (by kernel_rfl) (fun _ _ _ h => h) (Or.inl ⟨by rfl, ?_⟩) (by assumption) ?_
        rotate_left
        · intro wq hSw; obtain ⟨⟨qz0, qc0, qf0⟩, ⟨qz1, qc1, qf1⟩, ⟨qz2, qc2, qf2⟩, ⟨qz3, qc3, qf3⟩, ⟨qz4, qc4, qf4⟩, ⟨qz5, qc5, qf5⟩, _⟩ := hSw.2; go_simp; (try with_reducible rfl)
        try go_frame
        refine wpAnyH_ready (rs := [12]) (by kernel_rfl) (by simp) ?_
        refine AllReadyH.cons (o := ⟨some 34, _, _, _, _, _⟩) rfl (fun K hK => ?_) AllReadyH.nil
        go_simp
        (first | (with_reducible refine Calls.mono (M1.out _) ?_) | (with_reducible refine Calls.mono (M2.out _) ?_) | (with_reducible refine Calls.mono (C1.out _) ?_) | (with_reducible refine Calls.mono (C2.out _) ?_)); rintro e w5 ⟨rfl, hb⟩
        refine hK.out _ _ (hHeld2.next hb) (fun hHeld3 => ?_)
        clear hK K
        try clear hb
        try go_frame
        refine wpAnyH_ready (rs := [13]) (by kernel_rfl) (by simp) ?_
        refine AllReadyH.cons (o := ⟨some 35, _, _, _, _, _⟩) rfl (fun K hK => ?_) AllReadyH.nil
        go_simp
        (first | (with_reducible refine Calls.mono (M1.out _) ?_) | (with_reducible refine Calls.mono (M2.out _) ?_) | (with_reducible refine Calls.mono (C1.out _) ?_) | (with_reducible refine Calls.mono (C2.out _) ?_)); rintro e w5 ⟨rfl, hb⟩
        refine hK.out _ _ (hHeld3.next hb) (fun hHeld4 => ?_)
        clear hK K
        try clear hb
        try go_frame
        refine wpAnyH_take (i := 14) (oi := ⟨some 36, _, _, _, _, _⟩) (v := ?_) rfl (by kernel_rfl) (by kernel_rfl) (by kernel_rfl) (fun _ _ _ h => h) (Or.inl ⟨by rfl, ?_⟩) (by assumption) ?_
        rotate_left
        · intro wq hSw; go_simp; (try with_reducible rfl)
        try go_frame
        refine wpAnyH_take (i := 15) (oi := ⟨some 37, _, _, _, _, _⟩) (v := ?_) rfl (by kernel_rfl) (by kernel_rfl) (by kernel_rfl) (fun _ _ _ h => h) (Or.inl ⟨by rfl, ?_⟩) (by assumption) ?_
        rotate_left
        · intro wq hSw; go_simp; (try with_reducible rfl)
        try go_frame
        refine wpAnyH_take (i := 16) (oi := ⟨some 8, _, _, _, _, _⟩) (v := ?_) rfl (by kernel_rfl) (by kernel_rfl) (by kernel_rfl) (fun _ _ _ h => h) (Or.inl ⟨by rfl, ?_⟩) (by assumption) ?_
        rotate_left
        · intro wq hSw; go_simp; (try with_reducible rfl)
        try go_frame
        refine wpAnyH_done (by kernel_rfl) ?_ _
        have hHeld := hHeld4
        obtain ⟨⟨kz0, kc0, kf0⟩, ⟨kz1, kc1, kf1⟩, ⟨kz2, kc2, kf2⟩, ⟨kz3, kc3, kf3⟩, ⟨kz4, kc4, kf4⟩, ⟨kz5, kc5, kf5⟩, _⟩ := hHeld.2
        all_goals
          go_wp2_with fail
          go_ret
          exact ⟨rfl, hHeld.1⟩
  · rw [if_neg h] at CK
    replace CK := Lib.hid CK
    have e : lineB a r n d = false := by simpa using h
    rw [e]
    simp only [Bool.false_and]
    clear h e IT
    go_enter Tryz.func35, Tryz.ntmps35
    go_wp2_with fail
    refine (CK.out _).mono ?_
    rintro e w1 ⟨rfl, hb⟩
    have hHeld : Keeps w [(w.heap.size, 0, .int .i64 a), (w.heap.size, 1, .int .i64 r), (w.heap.size, 2, .int .i64 n), (w.heap.size, 3, .int .i64 d)] _ := Keeps.next (by refine ⟨by go_grown, ?_⟩; simp [Cells, go_sem]) hb
    clear hb
    obtain ⟨⟨kz0, kc0, kf0⟩, ⟨kz1, kc1, kf1⟩, ⟨kz2, kc2, kf2⟩, ⟨kz3, kc3, kf3⟩, _⟩ := hHeld.2
    go_wp2_with fail
    go_ret
    exact ⟨rfl, hHeld.1⟩
attribute [irreducible] tlQ tlE
end Go.Proofs.YtoephkglpbophaaGreat

/-
  Layer 5: slopes: Lowest, Compare, Nearest. Conditions: the numbers are of 64 bits.
-/
namespace Go.Proofs.YtoephkglpbophaaGreat
open Go.RowKit

set_option maxRecDepth 100000 in
theorem unlessS_no (e : Int) (f : Value) (h : (e == 0) = false) (w : World) : Calls Tryz.prog 70 #[.int .i64 e, f] w (Ret w (.tuple #[slV 0 0, .int .i64 e])) := by
  go_enter Tryz.func70, Tryz.ntmps70
  go_wp2
  go_returns
  exact ⟨rfl, by go_grown⟩
set_option maxRecDepth 100000 in
theorem unlessS_low (p1 : Value) (x y c : Int) (w : World) (C : ∀ W, Below w.heap.size w W → Calls Tryz.prog 72 #[p1] W (Ret W (.tuple #[slV x y, .int .i64 c]))) :
    Calls Tryz.prog 70 #[.int .i64 0, .func (.func 72) #[] #[p1]] w (Ret w (.tuple #[slV x y, .int .i64 c])) := by
  replace C := Lib.hid C
  go_enter Tryz.func70, Tryz.ntmps70
  go_wp2_with fail
  refine (C.out _ (by go_grown)).mono ?_
  rintro e w1 ⟨rfl, hb⟩
  have hHeld : Keeps w [(w.heap.size, 0, .int .i64 0), (w.heap.size, 1, .int .i64 0)] _ := Keeps.next (by refine ⟨by go_grown, ?_⟩; simp [Cells, go_sem]) hb
  clear hb
  obtain ⟨⟨kz0, kc0, kf0⟩, ⟨kz1, kc1, kf1⟩, _⟩ := hHeld.2
  go_wp2_with fail
  obtain ⟨d0, d1⟩ := set2 (W := w1) (B := w.heap.size) (u0 := .int .i64 x) (u1 := .int .i64 y) kc0 kc1
  refine bodyPost_ret (v := .tuple #[slV x y, .int .i64 c]) (by simp [results, Tryz.results70, go_sem, d0, d1]) rfl ?_
  exact ⟨rfl, by first | (with_reducible exact hHeld.1) | (have hB := hHeld.1; have hz := hB.size; go_grown)⟩
set_option maxRecDepth 100000 in
theorem unlessS_near (p1 p2 : Value) (x y c : Int) (w : World) (C : ∀ W, Below w.heap.size w W → Calls Tryz.prog 74 #[p1, p2] W (Ret W (.tuple #[slV x y, .int .i64 c]))) :
    Calls Tryz.prog 70 #[.int .i64 0, .func (.func 74) #[] #[p1, p2]] w (Ret w (.tuple #[slV x y, .int .i64 c])) := by
  replace C := Lib.hid C
  go_enter Tryz.func70, Tryz.ntmps70
  go_wp2_with fail
  refine (C.out _ (by go_grown)).mono ?_
  rintro e w1 ⟨rfl, hb⟩
  have hHeld : Keeps w [(w.heap.size, 0, .int .i64 0), (w.heap.size, 1, .int .i64 0)] _ := Keeps.next (by refine ⟨by go_grown, ?_⟩; simp [Cells, go_sem]) hb
  clear hb
  obtain ⟨⟨kz0, kc0, kf0⟩, ⟨kz1, kc1, kf1⟩, _⟩ := hHeld.2
  go_wp2_with fail
  obtain ⟨d0, d1⟩ := set2 (W := w1) (B := w.heap.size) (u0 := .int .i64 x) (u1 := .int .i64 y) kc0 kc1
  refine bodyPost_ret (v := .tuple #[slV x y, .int .i64 c]) (by simp [results, Tryz.results70, go_sem, d0, d1]) rfl ?_
  exact ⟨rfl, by first | (with_reducible exact hHeld.1) | (have hB := hHeld.1; have hz := hB.size; go_grown)⟩
set_option maxRecDepth 100000 in
theorem low1_any (n d : Int) (h : slopeB n d = true) (B : Nat) (w : World) (hc : Cells [(B, 0, .int .i64 n), (B, 1, .int .i64 d)] w) :
    Calls Tryz.prog 72 #[.pointer (some ⟨B, 0, none⟩)] w (Ret w (.tuple #[slV (lowN n d) (lowD n d), .int .i64 0])) := by
  have LO := fun W => lowest_any n d h W
  generalize lowN n d = x at *
  generalize lowD n d = y at *
  replace LO := Lib.hid LO
  clear h
  obtain ⟨⟨kz0, kc0, kf0⟩, ⟨kz1, kc1, kf1⟩, _⟩ := hc
  go_enter Tryz.func72, Tryz.ntmps72
  go_wp2_with fail
  refine (LO.out _).mono ?_
  rintro e w1 ⟨rfl, hb⟩
  have hHeld : Keeps w [(w.heap.size, 0, .int .i64 0), (w.heap.size, 1, .int .i64 0)] _ := Keeps.next (by refine ⟨by go_grown, ?_⟩; simp [Cells, go_sem]) hb
  clear hb
  obtain ⟨⟨kz0, kc0, kf0⟩, ⟨kz1, kc1, kf1⟩, _⟩ := hHeld.2
  go_wp2_with fail
  obtain ⟨d0, d1⟩ := set2 (W := w1) (B := w.heap.size) (u0 := .int .i64 x) (u1 := .int .i64 y) kc0 kc1
  refine bodyPost_ret (v := .tuple #[slV x y, .int .i64 0]) (by simp [results, Tryz.results72, go_sem, d0, d1]) rfl ?_
  exact ⟨rfl, by first | (with_reducible exact hHeld.1) | (have hB := hHeld.1; have hz := hB.size; go_grown)⟩
/-- What Lowest tells. -/
def loN (n d : Int) : Int := if slopeB n d then lowN n d else 0
def loD (n d : Int) : Int := if slopeB n d then lowD n d else 0
def loE (n d : Int) : Int := if slopeB n d then 0 else 151
set_option maxRecDepth 100000 in
set_option maxHeartbeats 2000000 in
theorem low_any (n d : Int) (w : World) : Calls Tryz.prog 50 #[slV n d] w (Ret w (.tuple #[slV (loN n d) (loD n d), .int .i64 (loE n d)])) := by
  have CS := fun v W k => checkSlopes_any [(n, d)] (by simp) v W k
  unfold loN loD loE
  by_cases h : slopeB n d = true
  · have e : badL [(n, d)] = false := by simp [badL, h]
    rw [e, if_neg (by simp)] at CS
    rw [if_pos h, if_pos h, if_pos h]
    replace CS := Lib.hid CS
    have L1 := fun B W k => low1_any n d h B W k
    generalize lowN n d = x at *
    generalize lowD n d = y at *
    replace L1 := Lib.hid L1
    have UN := Lib.hid (fun p W k => unlessS_low p x y 0 W k)
    clear h e
    go_enter Tryz.func50, Tryz.ntmps50
    go_wp2_with fail
    refine Calls.mono (CS.out _ _ ?_) ?_
    · exact readsS_one (by simp)
    rintro e w1 ⟨rfl, hb⟩
    have hHeld : Keeps w [(w.heap.size, 0, .int .i64 n), (w.heap.size, 1, .int .i64 d), (w.heap.size + 1, 0, .int .i64 0), (w.heap.size + 1, 1, .int .i64 0)] _ := Keeps.next (by refine ⟨by go_grown, ?_⟩; simp [Cells, go_sem]) hb
    clear hb
    obtain ⟨⟨kz0, kc0, kf0⟩, ⟨kz1, kc1, kf1⟩, ⟨kz2, kc2, kf2⟩, ⟨kz3, kc3, kf3⟩, _⟩ := hHeld.2
    go_wp2_with fail
    refine Calls.mono (UN.out _ _ ?_) ?_
    · intro W hW
      exact L1.out _ _ ⟨(hHeld.2.next hW).1, (hHeld.2.next hW).2.1, trivial⟩
    rintro e w2 ⟨rfl, hb⟩
    replace hHeld := Keeps.next (hHeld) hb
    clear hb kz0 kc0 kf0 kz1 kc1 kf1 kz2 kc2 kf2 kz3 kc3 kf3
    obtain ⟨⟨kz0, kc0, kf0⟩, ⟨kz1, kc1, kf1⟩, ⟨kz2, kc2, kf2⟩, ⟨kz3, kc3, kf3⟩, _⟩ := hHeld.2
    go_wp2_with fail
    obtain ⟨d0, d1⟩ := set2 (W := w2) (B := w.heap.size + 1) (u0 := .int .i64 x) (u1 := .int .i64 y) kc2 kc3
    refine bodyPost_ret (v := .tuple #[slV x y, .int .i64 0]) (by simp [results, Tryz.results50, go_sem, d0, d1]) rfl ?_
    exact ⟨rfl, by first | (with_reducible exact hHeld.1) | (have hB := hHeld.1; have hz := hB.size; go_grown)⟩
  · have e : badL [(n, d)] = true := by simpa [badL] using h
    rw [e, if_pos rfl] at CS
    rw [if_neg h, if_neg h, if_neg h]
    replace CS := Lib.hid CS
    have UN := Lib.hid (fun f W => unlessS_no 151 f (by decide) W)
    clear h e
    go_enter Tryz.func50, Tryz.ntmps50
    go_wp2_with fail
    refine Calls.mono (CS.out _ _ ?_) ?_
    · exact readsS_one (by simp)
    rintro e w1 ⟨rfl, hb⟩
    have hHeld : Keeps w [(w.heap.size, 0, .int .i64 n), (w.heap.size, 1, .int .i64 d), (w.heap.size + 1, 0, .int .i64 0), (w.heap.size + 1, 1, .int .i64 0)] _ := Keeps.next (by refine ⟨by go_grown, ?_⟩; simp [Cells, go_sem]) hb
    clear hb
    obtain ⟨⟨kz0, kc0, kf0⟩, ⟨kz1, kc1, kf1⟩, ⟨kz2, kc2, kf2⟩, ⟨kz3, kc3, kf3⟩, _⟩ := hHeld.2
    go_wp2_with fail
    refine (UN.out _ _).mono ?_
    rintro e w2 ⟨rfl, hb⟩
    replace hHeld := Keeps.next (hHeld) hb
    clear hb kz0 kc0 kf0 kz1 kc1 kf1 kz2 kc2 kf2 kz3 kc3 kf3
    obtain ⟨⟨kz0, kc0, kf0⟩, ⟨kz1, kc1, kf1⟩, ⟨kz2, kc2, kf2⟩, ⟨kz3, kc3, kf3⟩, _⟩ := hHeld.2
    go_wp2_with fail
    obtain ⟨d0, d1⟩ := set2 (W := w2) (B := w.heap.size + 1) (u0 := .int .i64 0) (u1 := .int .i64 0) kc2 kc3
    refine bodyPost_ret (v := .tuple #[slV 0 0, .int .i64 151]) (by simp [results, Tryz.results50, go_sem, d0, d1]) rfl ?_
    exact ⟨rfl, by first | (with_reducible exact hHeld.1) | (have hB := hHeld.1; have hz := hB.size; go_grown)⟩
/-- What Compare tells. -/
def slopesB (n d m e : Int) : Bool := slopeB n d && slopeB m e
def cpI (n d m e : Int) : Int := if slopesB n d m e then cmpI (n * e) (m * d) else 0
theorem bad_two (n d m e : Int) : badL [(n, d), (m, e)] = !slopesB n d m e := by
  unfold badL slopesB; simp [Bool.not_and]
theorem slope_i64 {n d : Int} (h : slopeB n d = true) : I64 n ∧ I64 d := by
  have := (slopeB_iff _ _).1 h
  unfold I64; omega
set_option maxRecDepth 100000 in
set_option maxHeartbeats 2000000 in
theorem cmp_any (n d m e : Int) (w : World) : Calls Tryz.prog 75 #[slV n d, slV m e] w (Ret w (.tuple #[.int .i64 (cpI n d m e), .bool (slopesB n d m e)])) := by
  have CS := fun v W k => checkSlopes_any [(n, d), (m, e)] (by simp) v W k
  rw [bad_two] at CS
  unfold cpI
  cases h : slopesB n d m e
  · rw [h] at CS
    simp only [Bool.not_false, if_true] at CS
    simp only [Bool.false_eq_true, if_false]
    replace CS := Lib.hid CS
    clear h
    go_enter Tryz.func75, Tryz.ntmps75
    go_wp2_with fail
    refine Calls.mono (CS.out _ _ ?_) ?_
    · exact readsS_two (by simp)
    rintro e w1 ⟨rfl, hb⟩
    have hHeld : Keeps w [(w.heap.size, 0, .int .i64 n)] _ := Keeps.next (by refine ⟨by go_grown, ?_⟩; simp [Cells, go_sem]) hb
    clear hb
    obtain ⟨⟨kz0, kc0, kf0⟩, _⟩ := hHeld.2
    go_wp2_with fail
    go_returns
    exact ⟨rfl, hHeld.1⟩
  · rw [h] at CS
    simp only [Bool.not_true, Bool.false_eq_true, if_false] at CS
    simp only [if_true]
    replace CS := Lib.hid CS
    unfold slopesB at h
    rw [Bool.and_eq_true] at h
    obtain ⟨i1, i2⟩ := slope_i64 h.1
    obtain ⟨i3, i4⟩ := slope_i64 h.2
    have M1 := fun W => mul_any n e i1 i4 W
    have M2 := fun W => mul_any m d i3 i2 W
    have f1 := mul_fits i1 i4
    have f2 := mul_fits i3 i2
    generalize n * e = x at *
    generalize m * d = y at *
    have C1 := fun W => compare_fits x y f1 f2 W
    generalize cmpI x y = c1 at *
    clear f1 f2 h i1 i2 i3 i4
    generalize rhi x = x0 at *
    generalize rlo x = x1 at *
    generalize rhi y = y0 at *
    generalize rlo y = y1 at *
    replace M1 := Lib.hid M1
    replace M2 := Lib.hid M2
    replace C1 := Lib.hid C1
    go_enter Tryz.func75, Tryz.ntmps75
    go_wp2_with fail
    refine Calls.mono (CS.out _ _ ?_) ?_
    · exact readsS_two (by simp)
    rintro e w1 ⟨rfl, hb⟩
    have hHeld : Keeps w [(w.heap.size, 0, .int .i64 n), (w.heap.size, 1, .int .i64 d), (w.heap.size + 1, 0, .int .i64 m), (w.heap.size + 1, 1, .int .i64 e)] _ := Keeps.next (by refine ⟨by go_grown, ?_⟩; simp [Cells, go_sem]) hb
    clear hb
    obtain ⟨⟨kz0, kc0, kf0⟩, ⟨kz1, kc1, kf1⟩, ⟨kz2, kc2, kf2⟩, ⟨kz3, kc3, kf3⟩, _⟩ := hHeld.2
    go_wp2_with fail
    refine region_keeps (w0 := w) (L := [(w.heap.size, 0, .int .i64 n), (w.heap.size, 1, .int .i64 d), (w.heap.size + 1, 0, .int .i64 m), (w.heap.size + 1, 1, .int .i64 e)]) (by kernel_rfl) (by first | exact hHeld | (refine ⟨by go_grown, ?_⟩; simp [Cells, go_sem]; done)) (fun hHeld0 => ?_)
    refine wpAnyH_take (i := 0) (oi := ⟨some 11, _, _, _, _, _⟩) (v := ?_) rfl (by kernel_rfl) (by kernel_rfl) (by kernel_rfl) (fun _ _ _ h => h) (Or.inl ⟨by rfl, ?_⟩) (by assumption) ?_
    rotate_left
    · intro wq hSw; go_simp; (try with_reducible rfl)
    try go_frame
    refine wpAnyH_take (i := 1) (oi := ⟨some 12, _, _, _, _, _⟩) (v := ?_) rfl (by kernel_rfl) (by kernel_rfl) (by kernel_rfl) (fun _ _ _ h => h) (Or.inl ⟨by rfl, ?_⟩) (by assumption) ?_
    rotate_left
    · intro wq hSw; obtain ⟨⟨qz0, qc0, qf0⟩, ⟨qz1, qc1, qf1⟩, ⟨qz2, qc2, qf2⟩, ⟨qz3, qc3, qf3⟩, _⟩ := hSw.2; go_simp; (try with_reducible rfl)
    try go_frame
    refine wpAnyH_take (i := 2) (oi := ⟨some 13, _, _, _, _, _⟩) (v := ?_) rfl (by kernel_rfl) (by kernel_rfl) (by kernel_rfl) (fun _ _ _ h => h) (Or.inl ⟨by rfl, ?_⟩) (by assumption) ?_
    rotate_left
    · intro wq hSw; go_simp; (try with_reducible rfl)
    try go_frame
    refine wpAnyH_take (i := 3) (oi := ⟨some 14, _, _, _, _, _⟩) (v := ?_) rfl (by kernel_rfl) (by kernel_rfl) (by kernel_rfl) (fun _ _ _ h => h) (Or.inl ⟨by rfl, ?_⟩) (by assumption) ?_
    rotate_left
    · intro wq hSw; obtain ⟨⟨qz0, qc0, qf0⟩, ⟨qz1, qc1, qf1⟩, ⟨qz2, qc2, qf2⟩, ⟨qz3, qc3, qf3⟩, _⟩ := hSw.2; go_simp; (try with_reducible rfl)
    try go_frame
    refine wpAnyH_take (i := 5) (oi := ⟨some 16, _, _, _, _, _⟩) (v := ?_) rfl (by kernel_rfl) (by kernel_rfl) (by kernel_rfl) (fun _ _ _ h => h) (Or.inl ⟨by rfl, ?_⟩) (by assumption) ?_
    rotate_left
    · intro wq hSw; go_simp; (try with_reducible rfl)
    try go_frame
    refine wpAnyH_take (i := 6) (oi := ⟨some 17, _, _, _, _, _⟩) (v := ?_) rfl (by kernel_rfl) (by kernel_rfl) (by kernel_rfl) (fun _ _ _ h => h) (Or.inl ⟨by rfl, ?_⟩) (by assumption) ?_
    rotate_left
    · intro wq hSw; obtain ⟨⟨qz0, qc0, qf0⟩, ⟨qz1, qc1, qf1⟩, ⟨qz2, qc2, qf2⟩, ⟨qz3, qc3, qf3⟩, _⟩ := hSw.2; go_simp; (try with_reducible rfl)
    try go_frame
    refine wpAnyH_take (i := 7) (oi := ⟨some 18, _, _, _, _, _⟩) (v := ?_) rfl (by kernel_rfl) (by kernel_rfl) (by kernel_rfl) (fun _ _ _ h => h) (Or.inl ⟨by rfl, ?_⟩) (by assumption) ?_
    rotate_left
    · intro wq hSw; go_simp; (try with_reducible rfl)
    try go_frame
    refine wpAnyH_take (i := 8) (oi := ⟨some 19, _, _, _, _, _⟩) (v := ?_) rfl (by kernel_rfl) (by kernel_rfl) (by kernel_rfl) (fun _ _ _ h => h) (Or.inl ⟨by rfl, ?_⟩) (by assumption) ?_
    rotate_left
    · intro wq hSw; obtain ⟨⟨qz0, qc0, qf0⟩, ⟨qz1, qc1, qf1⟩, ⟨qz2, qc2, qf2⟩, ⟨qz3, qc3, qf3⟩, _⟩ := hSw.2; go_simp; (try with_reducible rfl)
    try go_frame
    refine wpAnyH_ready (rs := [4]) (by kernel_rfl) (by simp) ?_
    refine AllReadyH.cons (o := ⟨some 15, _, _, _, _, _⟩) rfl (fun K hK => ?_) AllReadyH.nil
    go_simp
    (first | (with_reducible refine Calls.mono (M1.out _) ?_) | (with_reducible refine Calls.mono (M2.out _) ?_) | (with_reducible refine Calls.mono (C1.out _) ?_)); rintro e w5 ⟨rfl, hb⟩
    refine hK.out _ _ (hHeld0.next hb) (fun hHeld1 => ?_)
    clear hK K
    try clear hb
    try go_frame
    refine wpAnyH_ready (rs := [9]) (by kernel_rfl) (by simp) ?_
    refine AllReadyH.cons (o := ⟨some 20, _, _, _, _, _⟩) rfl (fun K hK => ?_) AllReadyH.nil
    go_simp
    (first | (with_reducible refine Calls.mono (M1.out _) ?_) | (with_reducible refine Calls.mono (M2.out _) ?_) | (with_reducible refine Calls.mono (C1.out _) ?_)); rintro e w5 ⟨rfl, hb⟩
    refine hK.out _ _ (hHeld1.next hb) (fun hHeld2 => ?_)
    clear hK K
    try clear hb
    try go_frame
    refine wpAnyH_ready (rs := [10]) (by kernel_rfl) (by simp) ?_
    refine AllReadyH.cons (o := ⟨some 21, _, _, _, _, _⟩) rfl (fun K hK => ?_) AllReadyH.nil
    go_simp
    (first | (with_reducible refine Calls.mono (M1.out _) ?_) | (with_reducible refine Calls.mono (M2.out _) ?_) | (with_reducible refine Calls.mono (C1.out _) ?_)); rintro e w5 ⟨rfl, hb⟩
    refine hK.out _ _ (hHeld2.next hb) (fun hHeld3 => ?_)
    clear hK K
    try clear hb
    try go_frame
    refine wpAnyH_take (i := 11) (oi := ⟨some 4, _, _, _, _, _⟩) (v := ?_) rfl (by kernel_rfl) (by kernel_rfl) (by kernel_rfl) (fun _ _ _ h => h) (Or.inl ⟨by rfl, ?_⟩) (by assumption) ?_
    rotate_left
    · intro wq hSw; go_simp; (try with_reducible rfl)
    try go_frame
    refine wpAnyH_take (i := 12) (oi := ⟨some 5, _, _, _, _, _⟩) (v := ?_) rfl (by kernel_rfl) (by kernel_rfl) (by kernel_rfl) (fun _ _ _ h => h) (Or.inl ⟨by rfl, ?_⟩) (by assumption) ?_
    rotate_left
    · intro wq hSw; go_simp; (try with_reducible rfl)
    try go_frame
    refine wpAnyH_done (by kernel_rfl) ?_ _
    have hHeld := hHeld3
    obtain ⟨⟨kz0, kc0, kf0⟩, ⟨kz1, kc1, kf1⟩, ⟨kz2, kc2, kf2⟩, ⟨kz3, kc3, kf3⟩, _⟩ := hHeld.2
    all_goals
      go_wp2_with fail
      go_returns
      exact ⟨rfl, hHeld.1⟩
end Go.Proofs.YtoephkglpbophaaGreat

/-
  Layer 5: lines that are made. Conditions: the numbers are of 64 bits.
-/
namespace Go.Proofs.YtoephkglpbophaaGreat
open Go.RowKit

theorem newK4 {w W : World} {L : List (Nat × Nat × Value)} {a b c d : Value} {t : TypeId} (h : Keeps w L (W.alloc (.cells #[a, b, c, d] t))) :
    Keeps w [(W.heap.size, 0, a), (W.heap.size, 1, b), (W.heap.size, 2, c), (W.heap.size, 3, d)] (W.alloc (.cells #[a, b, c, d] t)) :=
  ⟨h.1, by simp [Cells, go_sem]⟩
theorem newK4d {w W : World} {L : List (Nat × Nat × Value)} {a b c d : Value} {t : TypeId} (h : Keeps w L (W.alloc (.cells #[a, b, c, d] t)).drew) :
    Keeps w [(W.heap.size, 0, a), (W.heap.size, 1, b), (W.heap.size, 2, c), (W.heap.size, 3, d)] (W.alloc (.cells #[a, b, c, d] t)).drew :=
  ⟨h.1, by simp [Cells, go_sem]⟩
set_option maxRecDepth 100000 in
theorem unlessL_no (e : Int) (f : Value) (h : (e == 0) = false) (w : World) : Calls Tryz.prog 76 #[.int .i64 e, f] w (Ret w (.tuple #[lnV 0 0 0 0, .int .i64 e])) := by
  go_enter Tryz.func76, Tryz.ntmps76
  go_wp2
  go_returns
  exact ⟨rfl, by go_grown⟩
set_option maxRecDepth 100000 in
theorem unlessL_raised (p1 p2 : Value) (x0 x1 x2 x3 c : Int) (w : World) (C : ∀ W, Below w.heap.size w W → Calls Tryz.prog 77 #[p1, p2] W (Ret W (.tuple #[lnV x0 x1 x2 x3, .int .i64 c]))) :
    Calls Tryz.prog 76 #[.int .i64 0, .func (.func 77) #[] #[p1, p2]] w (Ret w (.tuple #[lnV x0 x1 x2 x3, .int .i64 c])) := by
  replace C := Lib.hid C
  go_enter Tryz.func76, Tryz.ntmps76
  go_wp2_with fail
  refine (C.out _ (by go_grown)).mono ?_
  rintro e w1 ⟨rfl, hb⟩
  have hHeld : Keeps w [(w.heap.size, 0, .int .i64 0), (w.heap.size, 1, .int .i64 0), (w.heap.size, 2, .int .i64 0), (w.heap.size, 3, .int .i64 0)] _ := Keeps.next (by refine ⟨by go_grown, ?_⟩; simp [Cells, go_sem]) hb
  clear hb
  obtain ⟨⟨kz0, kc0, kf0⟩, ⟨kz1, kc1, kf1⟩, ⟨kz2, kc2, kf2⟩, ⟨kz3, kc3, kf3⟩, _⟩ := hHeld.2
  go_wp2_with fail
  obtain ⟨d0, d1, d2, d3⟩ := set4 (W := w1) (B := w.heap.size) (u0 := .int .i64 x0) (u1 := .int .i64 x1) (u2 := .int .i64 x2) (u3 := .int .i64 x3) kc0 kc1 kc2 kc3
  refine bodyPost_ret (v := .tuple #[lnV x0 x1 x2 x3, .int .i64 c]) (by simp [results, Tryz.results76, go_sem, d0, d1, d2, d3]) rfl ?_
  exact ⟨rfl, by first | (with_reducible exact hHeld.1) | (have hB := hHeld.1; have hz := hB.size; go_grown)⟩
set_option maxRecDepth 100000 in
theorem unlessL_raised1 (p1 p2 p3 : Value) (x0 x1 x2 x3 c : Int) (w : World) (C : ∀ W, Below w.heap.size w W → Calls Tryz.prog 79 #[p1, p2, p3] W (Ret W (.tuple #[lnV x0 x1 x2 x3, .int .i64 c]))) :
    Calls Tryz.prog 76 #[.int .i64 0, .func (.func 79) #[] #[p1, p2, p3]] w (Ret w (.tuple #[lnV x0 x1 x2 x3, .int .i64 c])) := by
  replace C := Lib.hid C
  go_enter Tryz.func76, Tryz.ntmps76
  go_wp2_with fail
  refine (C.out _ (by go_grown)).mono ?_
  rintro e w1 ⟨rfl, hb⟩
  have hHeld : Keeps w [(w.heap.size, 0, .int .i64 0), (w.heap.size, 1, .int .i64 0), (w.heap.size, 2, .int .i64 0), (w.heap.size, 3, .int .i64 0)] _ := Keeps.next (by refine ⟨by go_grown, ?_⟩; simp [Cells, go_sem]) hb
  clear hb
  obtain ⟨⟨kz0, kc0, kf0⟩, ⟨kz1, kc1, kf1⟩, ⟨kz2, kc2, kf2⟩, ⟨kz3, kc3, kf3⟩, _⟩ := hHeld.2
  go_wp2_with fail
  obtain ⟨d0, d1, d2, d3⟩ := set4 (W := w1) (B := w.heap.size) (u0 := .int .i64 x0) (u1 := .int .i64 x1) (u2 := .int .i64 x2) (u3 := .int .i64 x3) kc0 kc1 kc2 kc3
  refine bodyPost_ret (v := .tuple #[lnV x0 x1 x2 x3, .int .i64 c]) (by simp [results, Tryz.results76, go_sem, d0, d1, d2, d3]) rfl ?_
  exact ⟨rfl, by first | (with_reducible exact hHeld.1) | (have hB := hHeld.1; have hz := hB.size; go_grown)⟩
def RaI (z n d x0 x1 x2 x3 c : Int) : Prop := ¬ (lowN n d = n ∧ lowD n d = d) ∧ x0 = 0 ∧ x1 = 0 ∧ x2 = 0 ∧ x3 = 0 ∧ c = 2 ∨ (lowN n d = n ∧ lowD n d = d) ∧ (backB (z / d) = false ∧ x0 = 0 ∧ x1 = 0 ∧ x2 = 0 ∧ x3 = 0 ∧ c = 5 ∨ backB (z / d) = true ∧ x0 = z / d ∧ x1 = z % d ∧ x2 = n ∧ x3 = d ∧ c = 0)
set_option maxRecDepth 100000 in
theorem raised11_any (n d a r : Int) (B1 B2 B3 : Nat) (w : World) (hc : Cells [(B1, 0, .int .i64 n), (B1, 1, .int .i64 d), (B2, 0, .int .i64 a), (B3, 0, .int .i64 r)] w) :
    Calls Tryz.prog 79 #[.pointer (some ⟨B1, 0, none⟩), .pointer (some ⟨B2, 0, none⟩), .pointer (some ⟨B3, 0, none⟩)] w (Ret w (.tuple #[lnV a r n d, .int .i64 0])) := by
  have AL := Lib.hid (fun W => along_any n d a r W)
  obtain ⟨⟨kz0, kc0, kf0⟩, ⟨kz1, kc1, kf1⟩, ⟨kz2, kc2, kf2⟩, ⟨kz3, kc3, kf3⟩, _⟩ := hc
  go_enter Tryz.func79, Tryz.ntmps79
  go_wp2_with fail
  refine (AL.out _).mono ?_
  rintro e w1 ⟨rfl, hb⟩
  have hHeld : Keeps w [(w.heap.size, 0, .int .i64 0), (w.heap.size, 1, .int .i64 0), (w.heap.size, 2, .int .i64 0), (w.heap.size, 3, .int .i64 0)] _ := Keeps.next (by refine ⟨by go_grown, ?_⟩; simp [Cells, go_sem]) hb
  clear hb
  obtain ⟨⟨kz0, kc0, kf0⟩, ⟨kz1, kc1, kf1⟩, ⟨kz2, kc2, kf2⟩, ⟨kz3, kc3, kf3⟩, _⟩ := hHeld.2
  go_wp2_with fail
  obtain ⟨d0, d1, d2, d3⟩ := set4 (W := w1) (B := w.heap.size) (u0 := .int .i64 a) (u1 := .int .i64 r) (u2 := .int .i64 n) (u3 := .int .i64 d) kc0 kc1 kc2 kc3
  refine bodyPost_ret (v := .tuple #[lnV a r n d, .int .i64 0]) (by simp [results, Tryz.results79, go_sem, d0, d1, d2, d3]) rfl ?_
  exact ⟨rfl, by first | (with_reducible exact hHeld.1) | (have hB := hHeld.1; have hz := hB.size; go_grown)⟩
set_option maxRecDepth 100000 in
set_option maxHeartbeats 8000000 in
theorem raised1_any (z n d x0 x1 x2 x3 c : Int) (hz : Fits z) (h : slopeB n d = true) (H : RaI z n d x0 x1 x2 x3 c) (B1 B2 : Nat) (w : World) (hc : Cells [(B1, 0, .int .i64 n), (B1, 1, .int .i64 d), (B2, 0, .int .i64 (rhi z)), (B2, 1, .int .u64 (rlo z))] w) :
    Calls Tryz.prog 77 #[.pointer (some ⟨B1, 0, none⟩), .pointer (some ⟨B2, 0, none⟩)] w (Ret w (.tuple #[lnV x0 x1 x2 x3, .int .i64 c])) := by
  have s := (slopeB_iff _ _).1 h
  have LO := Lib.hid (fun W => lowest_any n d h W)
  have OV := fun W => over_fits z d hz s.2.2.1 (by omega) W
  have ov : ovQ z d = (if backB (z / d) then z / d else 0) ∧ ovR z d = (if backB (z / d) then z % d else 0) ∧ ovE z d = (if backB (z / d) then 0 else 5) := by unfold ovQ ovR ovE; exact ⟨rfl, rfl, rfl⟩
  rw [ov.1, ov.2.1, ov.2.2] at OV
  unfold RaI at H
  clear ov hz h s
  generalize lowN n d = y0 at *
  generalize lowD n d = y1 at *
  generalize rhi z = z0 at *
  generalize rlo z = z1 at *
  generalize z / d = q at *
  generalize z % d = m at *
  have hk : Keeps w [(B1, 0, .int .i64 n), (B1, 1, .int .i64 d), (B2, 0, .int .i64 z0), (B2, 1, .int .u64 z1)] w := ⟨Below.refl _ _, hc⟩
  obtain ⟨⟨kz0, kc0, kf0⟩, ⟨kz1, kc1, kf1⟩, ⟨kz2, kc2, kf2⟩, ⟨kz3, kc3, kf3⟩, _⟩ := hc
  rcases H with ⟨g, rfl, rfl, rfl, rfl, rfl⟩ | ⟨⟨rfl, rfl⟩, ⟨g, rfl, rfl, rfl, rfl, rfl⟩ | ⟨g, rfl, rfl, rfl, rfl, rfl⟩⟩
  · clear OV
    by_cases g0 : y0 = n
    · have t1 : (y0 == n) = true := by simpa using g0
      have t2 : (y1 == d) = false := by
        have : ¬ y1 = d := fun h => g ⟨g0, h⟩
        simpa using this
      clear g
      subst g0
      go_enter Tryz.func77, Tryz.ntmps77
      go_wp2_with fail
      refine region_keeps (w0 := w) (L := [(B1, 0, .int .i64 y0), (B1, 1, .int .i64 d), (B2, 0, .int .i64 z0), (B2, 1, .int .u64 z1), (w.heap.size, 0, .int .i64 0), (w.heap.size, 1, .int .i64 0), (w.heap.size, 2, .int .i64 0), (w.heap.size, 3, .int .i64 0)]) (by kernel_rfl) ((hk.alloc _).app (newK4 (hk.alloc _))) (fun hHeld0 => ?_)
      refine wpAnyH_take (i := 0) (oi := ⟨some 7, _, _, _, _, _⟩) (v := ?_) rfl (by kernel_rfl) (by kernel_rfl) (by kernel_rfl) (fun _ _ _ h => h) (Or.inl ⟨by rfl, ?_⟩) (by assumption) ?_
      rotate_left
      · intro wq hSw; obtain ⟨⟨qz0, qc0, qf0⟩, ⟨qz1, qc1, qf1⟩, ⟨qz2, qc2, qf2⟩, ⟨qz3, qc3, qf3⟩, ⟨qz4, qc4, qf4⟩, ⟨qz5, qc5, qf5⟩, ⟨qz6, qc6, qf6⟩, ⟨qz7, qc7, qf7⟩, _⟩ := hSw.2; go_simp; (try with_reducible rfl)
      try go_frame
      refine wpAnyH_take (i := 2) (oi := ⟨some 9, _, _, _, _, _⟩) (v := ?_) rfl (by kernel_rfl) (by kernel_rfl) (by kernel_rfl) (fun _ _ _ h => h) (Or.inl ⟨by rfl, ?_⟩) (by assumption) ?_
      rotate_left
      · intro wq hSw; obtain ⟨⟨qz0, qc0, qf0⟩, ⟨qz1, qc1, qf1⟩, ⟨qz2, qc2, qf2⟩, ⟨qz3, qc3, qf3⟩, ⟨qz4, qc4, qf4⟩, ⟨qz5, qc5, qf5⟩, ⟨qz6, qc6, qf6⟩, ⟨qz7, qc7, qf7⟩, _⟩ := hSw.2; go_simp; (try with_reducible rfl)
      try go_frame
      refine wpAnyH_ready (rs := [1]) (by kernel_rfl) (by simp) ?_
      refine AllReadyH.cons (o := ⟨some 8, _, _, _, _, _⟩) rfl (fun K hK => ?_) AllReadyH.nil
      go_simp
      (with_reducible refine Calls.mono (LO.out _) ?_); rintro e w5 ⟨rfl, hb⟩
      refine hK.out _ _ (hHeld0.next hb) (fun hHeld1 => ?_)
      clear hK K
      try clear hb
      try go_frame
      refine wpAnyH_take (i := 3) (oi := ⟨some 10, _, _, _, _, _⟩) (v := ?_) rfl (by kernel_rfl) (by kernel_rfl) (by kernel_rfl) (fun _ _ _ h => h) (Or.inl ⟨by rfl, ?_⟩) (by assumption) ?_
      rotate_left
      · intro wq hSw; go_simp; (try with_reducible rfl)
      try go_frame
      refine wpAnyH_done (by kernel_rfl) ?_ _
      have hHeld := hHeld1
      obtain ⟨⟨kz0, kc0, kf0⟩, ⟨kz1, kc1, kf1⟩, ⟨kz2, kc2, kf2⟩, ⟨kz3, kc3, kf3⟩, ⟨kz4, kc4, kf4⟩, ⟨kz5, kc5, kf5⟩, ⟨kz6, kc6, kf6⟩, ⟨kz7, kc7, kf7⟩, _⟩ := hHeld.2
      all_goals
        go_wp2_with fail
        obtain ⟨d0, d1, d2, d3⟩ := set4 (W := w5) (B := w.heap.size) (u0 := .int .i64 0) (u1 := .int .i64 0) (u2 := .int .i64 0) (u3 := .int .i64 0) kc4 kc5 kc6 kc7
        refine bodyPost_ret (v := .tuple #[lnV 0 0 0 0, .int .i64 2]) (by simp [results, Tryz.results77, go_sem, d0, d1, d2, d3]) rfl ?_
        exact ⟨rfl, by first | (with_reducible exact hHeld.1) | (have hB := hHeld.1; have hz := hB.size; go_grown)⟩
    · have t1 : (y0 == n) = false := by simpa using g0
      clear g g0
      go_enter Tryz.func77, Tryz.ntmps77
      go_wp2_with fail
      refine region_keeps (w0 := w) (L := [(B1, 0, .int .i64 n), (B1, 1, .int .i64 d), (B2, 0, .int .i64 z0), (B2, 1, .int .u64 z1), (w.heap.size, 0, .int .i64 0), (w.heap.size, 1, .int .i64 0), (w.heap.size, 2, .int .i64 0), (w.heap.size, 3, .int .i64 0)]) (by kernel_rfl) ((hk.alloc _).app (newK4 (hk.alloc _))) (fun hHeld0 => ?_)
      refine wpAnyH_take (i := 0) (oi := ⟨some 7, _, _, _, _, _⟩) (v := ?_) rfl (by kernel_rfl) (by kernel_rfl) (by kernel_rfl) (fun _ _ _ h => h) (Or.inl ⟨by rfl, ?_⟩) (by assumption) ?_
      rotate_left
      · intro wq hSw; obtain ⟨⟨qz0, qc0, qf0⟩, ⟨qz1, qc1, qf1⟩, ⟨qz2, qc2, qf2⟩, ⟨qz3, qc3, qf3⟩, ⟨qz4, qc4, qf4⟩, ⟨qz5, qc5, qf5⟩, ⟨qz6, qc6, qf6⟩, ⟨qz7, qc7, qf7⟩, _⟩ := hSw.2; go_simp; (try with_reducible rfl)
      try go_frame
      refine wpAnyH_take (i := 2) (oi := ⟨some 9, _, _, _, _, _⟩) (v := ?_) rfl (by kernel_rfl) (by kernel_rfl) (by kernel_rfl) (fun _ _ _ h => h) (Or.inl ⟨by rfl, ?_⟩) (by assumption) ?_
      rotate_left
      · intro wq hSw; obtain ⟨⟨qz0, qc0, qf0⟩, ⟨qz1, qc1, qf1⟩, ⟨qz2, qc2, qf2⟩, ⟨qz3, qc3, qf3⟩, ⟨qz4, qc4, qf4⟩, ⟨qz5, qc5, qf5⟩, ⟨qz6, qc6, qf6⟩, ⟨qz7, qc7, qf7⟩, _⟩ := hSw.2; go_simp; (try with_reducible rfl)
      try go_frame
      refine wpAnyH_ready (rs := [1]) (by kernel_rfl) (by simp) ?_
      refine AllReadyH.cons (o := ⟨some 8, _, _, _, _, _⟩) rfl (fun K hK => ?_) AllReadyH.nil
      go_simp
      (with_reducible refine Calls.mono (LO.out _) ?_); rintro e w5 ⟨rfl, hb⟩
      refine hK.out _ _ (hHeld0.next hb) (fun hHeld1 => ?_)
      clear hK K
      try clear hb
      try go_frame
      refine wpAnyH_take (i := 3) (oi := ⟨some 10, _, _, _, _, _⟩) (v := ?_) rfl (by kernel_rfl) (by kernel_rfl) (by kernel_rfl) (fun _ _ _ h => h) (Or.inl ⟨by rfl, ?_⟩) (by assumption) ?_
      rotate_left
      · intro wq hSw; go_simp; (try with_reducible rfl)
      try go_frame
      refine wpAnyH_done (by kernel_rfl) ?_ _
      have hHeld := hHeld1
      obtain ⟨⟨kz0, kc0, kf0⟩, ⟨kz1, kc1, kf1⟩, ⟨kz2, kc2, kf2⟩, ⟨kz3, kc3, kf3⟩, ⟨kz4, kc4, kf4⟩, ⟨kz5, kc5, kf5⟩, ⟨kz6, kc6, kf6⟩, ⟨kz7, kc7, kf7⟩, _⟩ := hHeld.2
      all_goals
        go_wp2_with fail
        obtain ⟨d0, d1, d2, d3⟩ := set4 (W := w5) (B := w.heap.size) (u0 := .int .i64 0) (u1 := .int .i64 0) (u2 := .int .i64 0) (u3 := .int .i64 0) kc4 kc5 kc6 kc7
        refine bodyPost_ret (v := .tuple #[lnV 0 0 0 0, .int .i64 2]) (by simp [results, Tryz.results77, go_sem, d0, d1, d2, d3]) rfl ?_
        exact ⟨rfl, by first | (with_reducible exact hHeld.1) | (have hB := hHeld.1; have hz := hB.size; go_grown)⟩
  · rw [g] at OV
    simp only [Bool.false_eq_true, if_false] at OV
    replace OV := Lib.hid OV
    have UN := Lib.hid (fun f W => unlessL_no 5 f (by decide) W)
    clear g
    go_enter Tryz.func77, Tryz.ntmps77
    go_wp2_with fail
    refine region_keeps (w0 := w) (L := [(B1, 0, .int .i64 y0), (B1, 1, .int .i64 y1), (B2, 0, .int .i64 z0), (B2, 1, .int .u64 z1), (w.heap.size, 0, .int .i64 0), (w.heap.size, 1, .int .i64 0), (w.heap.size, 2, .int .i64 0), (w.heap.size, 3, .int .i64 0)]) (by kernel_rfl) ((hk.alloc _).app (newK4 (hk.alloc _))) (fun hHeld0 => ?_)
    refine wpAnyH_take (i := 0) (oi := ⟨some 7, _, _, _, _, _⟩) (v := ?_) rfl (by kernel_rfl) (by kernel_rfl) (by kernel_rfl) (fun _ _ _ h => h) (Or.inl ⟨by rfl, ?_⟩) (by assumption) ?_
    rotate_left
    · intro wq hSw; obtain ⟨⟨qz0, qc0, qf0⟩, ⟨qz1, qc1, qf1⟩, ⟨qz2, qc2, qf2⟩, ⟨qz3, qc3, qf3⟩, ⟨qz4, qc4, qf4⟩, ⟨qz5, qc5, qf5⟩, ⟨qz6, qc6, qf6⟩, ⟨qz7, qc7, qf7⟩, _⟩ := hSw.2; go_simp; (try with_reducible rfl)
    try go_frame
    refine wpAnyH_take (i := 2) (oi := ⟨some 9, _, _, _, _, _⟩) (v := ?_) rfl (by kernel_rfl) (by kernel_rfl) (by kernel_rfl) (fun _ _ _ h => h) (Or.inl ⟨by rfl, ?_⟩) (by assumption) ?_
    rotate_left
    · intro wq hSw; obtain ⟨⟨qz0, qc0, qf0⟩, ⟨qz1, qc1, qf1⟩, ⟨qz2, qc2, qf2⟩, ⟨qz3, qc3, qf3⟩, ⟨qz4, qc4, qf4⟩, ⟨qz5, qc5, qf5⟩, ⟨qz6, qc6, qf6⟩, ⟨qz7, qc7, qf7⟩, _⟩ := hSw.2; go_simp; (try with_reducible rfl)
    try go_frame
    refine wpAnyH_ready (rs := [1]) (by kernel_rfl) (by simp) ?_
    refine AllReadyH.cons (o := ⟨some 8, _, _, _, _, _⟩) rfl (fun K hK => ?_) AllReadyH.nil
    go_simp
    (with_reducible refine Calls.mono (LO.out _) ?_); rintro e w5 ⟨rfl, hb⟩
    refine hK.out _ _ (hHeld0.next hb) (fun hHeld1 => ?_)
    clear hK K
    try clear hb
    try go_frame
    refine wpAnyH_take (i := 3) (oi := ⟨some 10, _, _, _, _, _⟩) (v := ?_) rfl (by kernel_rfl) (by kernel_rfl) (by kernel_rfl) (fun _ _ _ h => h) (Or.inl ⟨by rfl, ?_⟩) (by assumption) ?_
    rotate_left
    · intro wq hSw; go_simp; (try with_reducible rfl)
    try go_frame
    refine wpAnyH_done (by kernel_rfl) ?_ _
    have hHeld := hHeld1
    obtain ⟨⟨kz0, kc0, kf0⟩, ⟨kz1, kc1, kf1⟩, ⟨kz2, kc2, kf2⟩, ⟨kz3, kc3, kf3⟩, ⟨kz4, kc4, kf4⟩, ⟨kz5, kc5, kf5⟩, ⟨kz6, kc6, kf6⟩, ⟨kz7, kc7, kf7⟩, _⟩ := hHeld.2
    all_goals
      go_wp2_with fail
      refine (OV.out _).mono ?_
      skip
      rintro e w6 ⟨rfl, hb⟩
      replace hHeld := Keeps.next (hHeld) hb
      clear hb kz0 kc0 kf0 kz1 kc1 kf1 kz2 kc2 kf2 kz3 kc3 kf3 kz4 kc4 kf4 kz5 kc5 kf5 kz6 kc6 kf6 kz7 kc7 kf7
      obtain ⟨⟨kz0, kc0, kf0⟩, ⟨kz1, kc1, kf1⟩, ⟨kz2, kc2, kf2⟩, ⟨kz3, kc3, kf3⟩, ⟨kz4, kc4, kf4⟩, ⟨kz5, kc5, kf5⟩, ⟨kz6, kc6, kf6⟩, ⟨kz7, kc7, kf7⟩, _⟩ := hHeld.2
      go_wp2_with fail
      refine (UN.out _ _).mono ?_
      rintro e w7 ⟨rfl, hb⟩
      replace hHeld := Keeps.next (((hHeld.alloc _).alloc _)) hb
      clear hb kz0 kc0 kf0 kz1 kc1 kf1 kz2 kc2 kf2 kz3 kc3 kf3 kz4 kc4 kf4 kz5 kc5 kf5 kz6 kc6 kf6 kz7 kc7 kf7
      obtain ⟨⟨kz0, kc0, kf0⟩, ⟨kz1, kc1, kf1⟩, ⟨kz2, kc2, kf2⟩, ⟨kz3, kc3, kf3⟩, ⟨kz4, kc4, kf4⟩, ⟨kz5, kc5, kf5⟩, ⟨kz6, kc6, kf6⟩, ⟨kz7, kc7, kf7⟩, _⟩ := hHeld.2
      go_wp2_with fail
      obtain ⟨d0, d1, d2, d3⟩ := set4 (W := w7) (B := w.heap.size) (u0 := .int .i64 0) (u1 := .int .i64 0) (u2 := .int .i64 0) (u3 := .int .i64 0) kc4 kc5 kc6 kc7
      refine bodyPost_ret (v := .tuple #[lnV 0 0 0 0, .int .i64 5]) (by simp [results, Tryz.results77, go_sem, d0, d1, d2, d3]) rfl ?_
      exact ⟨rfl, by first | (with_reducible exact hHeld.1) | (have hB := hHeld.1; have hz := hB.size; go_grown)⟩
  · rw [g] at OV
    simp only [if_true] at OV
    replace OV := Lib.hid OV
    have R1 := Lib.hid (fun B1 B2 B3 W k => raised11_any x2 x3 x0 x1 B1 B2 B3 W k)
    have UN := Lib.hid (fun p1 p2 p3 W k => unlessL_raised1 p1 p2 p3 x0 x1 x2 x3 0 W k)
    clear g
    go_enter Tryz.func77, Tryz.ntmps77
    go_wp2_with fail
    refine region_keeps (w0 := w) (L := [(B1, 0, .int .i64 x2), (B1, 1, .int .i64 x3), (B2, 0, .int .i64 z0), (B2, 1, .int .u64 z1), (w.heap.size, 0, .int .i64 0), (w.heap.size, 1, .int .i64 0), (w.heap.size, 2, .int .i64 0), (w.heap.size, 3, .int .i64 0)]) (by kernel_rfl) ((hk.alloc _).app (newK4 (hk.alloc _))) (fun hHeld0 => ?_)
    refine wpAnyH_take (i := 0) (oi := ⟨some 7, _, _, _, _, _⟩) (v := ?_) rfl (by kernel_rfl) (by kernel_rfl) (by kernel_rfl) (fun _ _ _ h => h) (Or.inl ⟨by rfl, ?_⟩) (by assumption) ?_
    rotate_left
    · intro wq hSw; obtain ⟨⟨qz0, qc0, qf0⟩, ⟨qz1, qc1, qf1⟩, ⟨qz2, qc2, qf2⟩, ⟨qz3, qc3, qf3⟩, ⟨qz4, qc4, qf4⟩, ⟨qz5, qc5, qf5⟩, ⟨qz6, qc6, qf6⟩, ⟨qz7, qc7, qf7⟩, _⟩ := hSw.2; go_simp; (try with_reducible rfl)
    try go_frame
    refine wpAnyH_take (i := 2) (oi := ⟨some 9, _, _, _, _, _⟩) (v := ?_) rfl (by kernel_rfl) (by kernel_rfl) (by kernel_rfl) (fun _ _ _ h => h) (Or.inl ⟨by rfl, ?_⟩) (by assumption) ?_
    rotate_left
    · intro wq hSw; obtain ⟨⟨qz0, qc0, qf0⟩, ⟨qz1, qc1, qf1⟩, ⟨qz2, qc2, qf2⟩, ⟨qz3, qc3, qf3⟩, ⟨qz4, qc4, qf4⟩, ⟨qz5, qc5, qf5⟩, ⟨qz6, qc6, qf6⟩, ⟨qz7, qc7, qf7⟩, _⟩ := hSw.2; go_simp; (try with_reducible rfl)
    try go_frame
    refine wpAnyH_ready (rs := [1]) (by kernel_rfl) (by simp) ?_
    refine AllReadyH.cons (o := ⟨some 8, _, _, _, _, _⟩) rfl (fun K hK => ?_) AllReadyH.nil
    go_simp
    (with_reducible refine Calls.mono (LO.out _) ?_); rintro e w5 ⟨rfl, hb⟩
    refine hK.out _ _ (hHeld0.next hb) (fun hHeld1 => ?_)
    clear hK K
    try clear hb
    try go_frame
    refine wpAnyH_take (i := 3) (oi := ⟨some 10, _, _, _, _, _⟩) (v := ?_) rfl (by kernel_rfl) (by kernel_rfl) (by kernel_rfl) (fun _ _ _ h => h) (Or.inl ⟨by rfl, ?_⟩) (by assumption) ?_
    rotate_left
    · intro wq hSw; go_simp; (try with_reducible rfl)
    try go_frame
    refine wpAnyH_done (by kernel_rfl) ?_ _
    have hHeld := hHeld1
    obtain ⟨⟨kz0, kc0, kf0⟩, ⟨kz1, kc1, kf1⟩, ⟨kz2, kc2, kf2⟩, ⟨kz3, kc3, kf3⟩, ⟨kz4, kc4, kf4⟩, ⟨kz5, kc5, kf5⟩, ⟨kz6, kc6, kf6⟩, ⟨kz7, kc7, kf7⟩, _⟩ := hHeld.2
    all_goals
      go_wp2_with fail
      refine (OV.out _).mono ?_
      skip
      rintro e w6 ⟨rfl, hb⟩
      replace hHeld := Keeps.next (hHeld) hb
      clear hb kz0 kc0 kf0 kz1 kc1 kf1 kz2 kc2 kf2 kz3 kc3 kf3 kz4 kc4 kf4 kz5 kc5 kf5 kz6 kc6 kf6 kz7 kc7 kf7
      obtain ⟨⟨kz0, kc0, kf0⟩, ⟨kz1, kc1, kf1⟩, ⟨kz2, kc2, kf2⟩, ⟨kz3, kc3, kf3⟩, ⟨kz4, kc4, kf4⟩, ⟨kz5, kc5, kf5⟩, ⟨kz6, kc6, kf6⟩, ⟨kz7, kc7, kf7⟩, _⟩ := hHeld.2
      go_wp2_with fail
      have hN : Keeps w [(w6.heap.size, 0, .int .i64 x0), (w6.heap.size + 1, 0, .int .i64 x1)] ((w6.alloc (.cells #[.int .i64 x0] 2)).alloc (.cells #[.int .i64 x1] 2)) := ⟨((hHeld.alloc _).alloc _).1, by simp [Cells, go_sem]⟩
      have hM := ((hHeld.alloc (.cells #[.int .i64 x0] 2)).alloc (.cells #[.int .i64 x1] 2)).app hN
      refine Calls.mono (UN.out _ _ _ _ ?_) ?_
      · intro W hW
        have hW2 := hM.2.next hW
        exact R1.out _ _ _ _ ⟨hW2.1, hW2.2.1, hW2.2.2.2.2.2.2.2.2.1, hW2.2.2.2.2.2.2.2.2.2.1, trivial⟩
      rintro e w7 ⟨rfl, hb⟩
      replace hHeld := Keeps.next (((hHeld.alloc _).alloc _)) hb
      clear hb kz0 kc0 kf0 kz1 kc1 kf1 kz2 kc2 kf2 kz3 kc3 kf3 kz4 kc4 kf4 kz5 kc5 kf5 kz6 kc6 kf6 kz7 kc7 kf7
      obtain ⟨⟨kz0, kc0, kf0⟩, ⟨kz1, kc1, kf1⟩, ⟨kz2, kc2, kf2⟩, ⟨kz3, kc3, kf3⟩, ⟨kz4, kc4, kf4⟩, ⟨kz5, kc5, kf5⟩, ⟨kz6, kc6, kf6⟩, ⟨kz7, kc7, kf7⟩, _⟩ := hHeld.2
      go_wp2_with fail
      obtain ⟨d0, d1, d2, d3⟩ := set4 (W := w7) (B := w.heap.size) (u0 := .int .i64 x0) (u1 := .int .i64 x1) (u2 := .int .i64 x2) (u3 := .int .i64 x3) kc4 kc5 kc6 kc7
      refine bodyPost_ret (v := .tuple #[lnV x0 x1 x2 x3, .int .i64 0]) (by simp [results, Tryz.results77, go_sem, d0, d1, d2, d3]) rfl ?_
      exact ⟨rfl, by first | (with_reducible exact hHeld.1) | (have hB := hHeld.1; have hz := hB.size; go_grown)⟩
set_option maxRecDepth 100000 in
set_option maxHeartbeats 4000000 in
theorem raised_any (z n d x0 x1 x2 x3 c : Int) (hz : Fits z) (H : slopeB n d = false ∧ x0 = 0 ∧ x1 = 0 ∧ x2 = 0 ∧ x3 = 0 ∧ c = 151 ∨ slopeB n d = true ∧ RaI z n d x0 x1 x2 x3 c) (w : World) :
    Calls Tryz.prog 54 #[wideV (rhi z) (rlo z), slV n d] w (Ret w (.tuple #[lnV x0 x1 x2 x3, .int .i64 c])) := by
  have CS := fun v W k => checkSlopes_any [(n, d)] (by simp) v W k
  rcases H with ⟨h, rfl, rfl, rfl, rfl, rfl⟩ | ⟨h, H⟩
  · have e : badL [(n, d)] = true := by simp [badL, h]
    rw [e, if_pos rfl] at CS
    replace CS := Lib.hid CS
    have UN := Lib.hid (fun f W => unlessL_no 151 f (by decide) W)
    clear h e hz
    generalize rhi z = z0 at *
    generalize rlo z = z1 at *
    go_enter Tryz.func54, Tryz.ntmps54
    go_wp2_with fail
    refine Calls.mono (CS.out _ _ ?_) ?_
    · exact readsS_one (by simp)
    rintro e w1 ⟨rfl, hb⟩
    have hHeld : Keeps w [(w.heap.size + 2, 0, .int .i64 0), (w.heap.size + 2, 1, .int .i64 0), (w.heap.size + 2, 2, .int .i64 0), (w.heap.size + 2, 3, .int .i64 0)] _ := Keeps.next (by refine ⟨by go_grown, ?_⟩; simp [Cells, go_sem]) hb
    clear hb
    obtain ⟨⟨kz0, kc0, kf0⟩, ⟨kz1, kc1, kf1⟩, ⟨kz2, kc2, kf2⟩, ⟨kz3, kc3, kf3⟩, _⟩ := hHeld.2
    go_wp2_with fail
    refine (UN.out _ _).mono ?_
    rintro e w2 ⟨rfl, hb⟩
    replace hHeld := Keeps.next (hHeld) hb
    clear hb kz0 kc0 kf0 kz1 kc1 kf1 kz2 kc2 kf2 kz3 kc3 kf3
    obtain ⟨⟨kz0, kc0, kf0⟩, ⟨kz1, kc1, kf1⟩, ⟨kz2, kc2, kf2⟩, ⟨kz3, kc3, kf3⟩, _⟩ := hHeld.2
    go_wp2_with fail
    obtain ⟨d0, d1, d2, d3⟩ := set4 (W := w2) (B := w.heap.size + 2) (u0 := .int .i64 0) (u1 := .int .i64 0) (u2 := .int .i64 0) (u3 := .int .i64 0) kc0 kc1 kc2 kc3
    refine bodyPost_ret (v := .tuple #[lnV 0 0 0 0, .int .i64 151]) (by simp [results, Tryz.results54, go_sem, d0, d1, d2, d3]) rfl ?_
    exact ⟨rfl, by first | (with_reducible exact hHeld.1) | (have hB := hHeld.1; have hz := hB.size; go_grown)⟩
  · have e : badL [(n, d)] = false := by simp [badL, h]
    rw [e, if_neg (by simp)] at CS
    replace CS := Lib.hid CS
    have O1 := fun B1 B2 W k => raised1_any z n d x0 x1 x2 x3 c hz h H B1 B2 W k
    have UN := Lib.hid (fun p1 p2 W k => unlessL_raised p1 p2 x0 x1 x2 x3 c W k)
    clear h e H hz
    generalize rhi z = z0 at *
    generalize rlo z = z1 at *
    replace O1 := Lib.hid O1
    go_enter Tryz.func54, Tryz.ntmps54
    go_wp2_with fail
    refine Calls.mono (CS.out _ _ ?_) ?_
    · exact readsS_one (by simp)
    rintro e w1 ⟨rfl, hb⟩
    have hHeld : Keeps w [(w.heap.size + 2, 0, .int .i64 0), (w.heap.size + 2, 1, .int .i64 0), (w.heap.size + 2, 2, .int .i64 0), (w.heap.size + 2, 3, .int .i64 0), (w.heap.size + 1, 0, .int .i64 n), (w.heap.size + 1, 1, .int .i64 d), (w.heap.size, 0, .int .i64 z0), (w.heap.size, 1, .int .u64 z1)] _ := Keeps.next (by refine ⟨by go_grown, ?_⟩; simp [Cells, go_sem]) hb
    clear hb
    obtain ⟨⟨kz0, kc0, kf0⟩, ⟨kz1, kc1, kf1⟩, ⟨kz2, kc2, kf2⟩, ⟨kz3, kc3, kf3⟩, ⟨kz4, kc4, kf4⟩, ⟨kz5, kc5, kf5⟩, ⟨kz6, kc6, kf6⟩, ⟨kz7, kc7, kf7⟩, _⟩ := hHeld.2
    go_wp2_with fail
    refine Calls.mono (UN.out _ _ _ ?_) ?_
    · intro W hW
      exact O1.out _ _ _ (hHeld.2.next hW).2.2.2.2
    rintro e w2 ⟨rfl, hb⟩
    replace hHeld := Keeps.next (hHeld) hb
    clear hb kz0 kc0 kf0 kz1 kc1 kf1 kz2 kc2 kf2 kz3 kc3 kf3 kz4 kc4 kf4 kz5 kc5 kf5 kz6 kc6 kf6 kz7 kc7 kf7
    obtain ⟨⟨kz0, kc0, kf0⟩, ⟨kz1, kc1, kf1⟩, ⟨kz2, kc2, kf2⟩, ⟨kz3, kc3, kf3⟩, ⟨kz4, kc4, kf4⟩, ⟨kz5, kc5, kf5⟩, ⟨kz6, kc6, kf6⟩, ⟨kz7, kc7, kf7⟩, _⟩ := hHeld.2
    go_wp2_with fail
    obtain ⟨d0, d1, d2, d3⟩ := set4 (W := w2) (B := w.heap.size + 2) (u0 := .int .i64 x0) (u1 := .int .i64 x1) (u2 := .int .i64 x2) (u3 := .int .i64 x3) kc0 kc1 kc2 kc3
    refine bodyPost_ret (v := .tuple #[lnV x0 x1 x2 x3, .int .i64 c]) (by simp [results, Tryz.results54, go_sem, d0, d1, d2, d3]) rfl ?_
    exact ⟨rfl, by first | (with_reducible exact hHeld.1) | (have hB := hHeld.1; have hz := hB.size; go_grown)⟩
end Go.Proofs.YtoephkglpbophaaGreat

/-
  Layer 5: Nearest. Conditions: the numbers are of 64 bits.
-/
namespace Go.Proofs.YtoephkglpbophaaGreat
open Go.RowKit

/-- What the nearest slope is, or why there is none. -/
def NearI (n d m e x y c : Int) : Prop :=
  slopesB n d m e = false ∧ x = 0 ∧ y = 0 ∧ c = 151 ∨ slopesB n d m e = true ∧ (0 < cpI n d m e ∧ x = 0 ∧ y = 0 ∧ c = 2 ∨ cpI n d m e ≤ 0 ∧ (0 < n ∧ x = lowN n d ∧ y = lowD n d ∧ c = 0 ∨ n ≤ 0 ∧ m < 0 ∧ x = lowN m e ∧ y = lowD m e ∧ c = 0 ∨ n ≤ 0 ∧ 0 ≤ m ∧ x = 0 ∧ y = 1 ∧ c = 0))
set_option maxRecDepth 100000 in
set_option maxHeartbeats 4000000 in
theorem near1_any (n d m e x y c : Int) (hs : slopesB n d m e = true) (H : 0 < cpI n d m e ∧ x = 0 ∧ y = 0 ∧ c = 2 ∨ cpI n d m e ≤ 0 ∧ (0 < n ∧ x = lowN n d ∧ y = lowD n d ∧ c = 0 ∨ n ≤ 0 ∧ m < 0 ∧ x = lowN m e ∧ y = lowD m e ∧ c = 0 ∨ n ≤ 0 ∧ 0 ≤ m ∧ x = 0 ∧ y = 1 ∧ c = 0))
    (B1 B2 : Nat) (w : World) (hc : Cells [(B1, 0, .int .i64 n), (B1, 1, .int .i64 d), (B2, 0, .int .i64 m), (B2, 1, .int .i64 e)] w) :
    Calls Tryz.prog 74 #[.pointer (some ⟨B1, 0, none⟩), .pointer (some ⟨B2, 0, none⟩)] w (Ret w (.tuple #[slV x y, .int .i64 c])) := by
  have CP := fun W => cmp_any n d m e W
  rw [hs] at CP
  unfold slopesB at hs
  rw [Bool.and_eq_true] at hs
  have L1 := fun W => lowest_any n d hs.1 W
  have L2 := fun W => lowest_any m e hs.2 W
  generalize cpI n d m e = p at *
  generalize lowN n d = a0 at *
  generalize lowD n d = a1 at *
  generalize lowN m e = b0 at *
  generalize lowD m e = b1 at *
  replace CP := Lib.hid CP
  replace L1 := Lib.hid L1
  replace L2 := Lib.hid L2
  clear hs
  have hk : Keeps w [(B1, 0, .int .i64 n), (B1, 1, .int .i64 d), (B2, 0, .int .i64 m), (B2, 1, .int .i64 e)] w := ⟨Below.refl _ _, hc⟩
  obtain ⟨⟨kz0, kc0, kf0⟩, ⟨kz1, kc1, kf1⟩, ⟨kz2, kc2, kf2⟩, ⟨kz3, kc3, kf3⟩, _⟩ := hc
  rcases H with ⟨h, rfl, rfl, rfl⟩ | ⟨h, ⟨h2, rfl, rfl, rfl⟩ | ⟨h2, h3, rfl, rfl, rfl⟩ | ⟨h2, h3, rfl, rfl, rfl⟩⟩
  · have t1 : decide (0 < p) = true := by simpa using h
    clear L1 L2 h
    go_enter Tryz.func74, Tryz.ntmps74
    go_wp2_with fail
    refine (CP.out _).mono ?_
    rintro e w1 ⟨rfl, hb⟩
    have hHeld : Keeps w [(B1, 0, .int .i64 n), (B1, 1, .int .i64 d), (B2, 0, .int .i64 m), (B2, 1, .int .i64 e), (w.heap.size, 0, .int .i64 0), (w.heap.size, 1, .int .i64 0)] w1 := Keeps.next ((hk.alloc _).app (newK2 (hk.alloc _))) hb
    clear hb kz0 kc0 kf0 kz1 kc1 kf1 kz2 kc2 kf2 kz3 kc3 kf3
    obtain ⟨⟨kz0, kc0, kf0⟩, ⟨kz1, kc1, kf1⟩, ⟨kz2, kc2, kf2⟩, ⟨kz3, kc3, kf3⟩, ⟨kz4, kc4, kf4⟩, ⟨kz5, kc5, kf5⟩, _⟩ := hHeld.2
    skip
    go_wp2_with fail
    obtain ⟨d0, d1⟩ := set2 (W := w1) (B := w.heap.size) (u0 := .int .i64 0) (u1 := .int .i64 0) kc4 kc5
    refine bodyPost_ret (v := .tuple #[slV 0 0, .int .i64 2]) (by simp [results, Tryz.results74, go_sem, d0, d1]) rfl ?_
    exact ⟨rfl, by first | (with_reducible exact hHeld.1) | (have hB := hHeld.1; have hz := hB.size; go_grown)⟩
  · have t1 : decide (0 < p) = false := by simpa using h
    have t2 : decide (0 < n) = true := by simpa using h2
    clear L2 h h2
    go_enter Tryz.func74, Tryz.ntmps74
    go_wp2_with fail
    refine (CP.out _).mono ?_
    rintro e w1 ⟨rfl, hb⟩
    have hHeld : Keeps w [(B1, 0, .int .i64 n), (B1, 1, .int .i64 d), (B2, 0, .int .i64 m), (B2, 1, .int .i64 e), (w.heap.size, 0, .int .i64 0), (w.heap.size, 1, .int .i64 0)] w1 := Keeps.next ((hk.alloc _).app (newK2 (hk.alloc _))) hb
    clear hb kz0 kc0 kf0 kz1 kc1 kf1 kz2 kc2 kf2 kz3 kc3 kf3
    obtain ⟨⟨kz0, kc0, kf0⟩, ⟨kz1, kc1, kf1⟩, ⟨kz2, kc2, kf2⟩, ⟨kz3, kc3, kf3⟩, ⟨kz4, kc4, kf4⟩, ⟨kz5, kc5, kf5⟩, _⟩ := hHeld.2
    skip
    go_wp2_with fail
    refine (L1.out _).mono ?_
    rintro e w2 ⟨rfl, hb⟩
    replace hHeld := Keeps.next (hHeld) hb
    clear hb kz0 kc0 kf0 kz1 kc1 kf1 kz2 kc2 kf2 kz3 kc3 kf3 kz4 kc4 kf4 kz5 kc5 kf5
    obtain ⟨⟨kz0, kc0, kf0⟩, ⟨kz1, kc1, kf1⟩, ⟨kz2, kc2, kf2⟩, ⟨kz3, kc3, kf3⟩, ⟨kz4, kc4, kf4⟩, ⟨kz5, kc5, kf5⟩, _⟩ := hHeld.2
    go_wp2_with fail
    obtain ⟨d0, d1⟩ := set2 (W := w2) (B := w.heap.size) (u0 := .int .i64 x) (u1 := .int .i64 y) kc4 kc5
    refine bodyPost_ret (v := .tuple #[slV x y, .int .i64 0]) (by simp [results, Tryz.results74, go_sem, d0, d1]) rfl ?_
    exact ⟨rfl, by first | (with_reducible exact hHeld.1) | (have hB := hHeld.1; have hz := hB.size; go_grown)⟩
  · have t1 : decide (0 < p) = false := by simpa using h
    have t2 : decide (0 < n) = false := by simpa using h2
    have t3 : decide (m < 0) = true := by simpa using h3
    clear L1 h h2 h3
    go_enter Tryz.func74, Tryz.ntmps74
    go_wp2_with fail
    refine (CP.out _).mono ?_
    rintro e w1 ⟨rfl, hb⟩
    have hHeld : Keeps w [(B1, 0, .int .i64 n), (B1, 1, .int .i64 d), (B2, 0, .int .i64 m), (B2, 1, .int .i64 e), (w.heap.size, 0, .int .i64 0), (w.heap.size, 1, .int .i64 0)] w1 := Keeps.next ((hk.alloc _).app (newK2 (hk.alloc _))) hb
    clear hb kz0 kc0 kf0 kz1 kc1 kf1 kz2 kc2 kf2 kz3 kc3 kf3
    obtain ⟨⟨kz0, kc0, kf0⟩, ⟨kz1, kc1, kf1⟩, ⟨kz2, kc2, kf2⟩, ⟨kz3, kc3, kf3⟩, ⟨kz4, kc4, kf4⟩, ⟨kz5, kc5, kf5⟩, _⟩ := hHeld.2
    skip
    go_wp2_with fail
    refine (L2.out _).mono ?_
    rintro e w2 ⟨rfl, hb⟩
    replace hHeld := Keeps.next (hHeld) hb
    clear hb kz0 kc0 kf0 kz1 kc1 kf1 kz2 kc2 kf2 kz3 kc3 kf3 kz4 kc4 kf4 kz5 kc5 kf5
    obtain ⟨⟨kz0, kc0, kf0⟩, ⟨kz1, kc1, kf1⟩, ⟨kz2, kc2, kf2⟩, ⟨kz3, kc3, kf3⟩, ⟨kz4, kc4, kf4⟩, ⟨kz5, kc5, kf5⟩, _⟩ := hHeld.2
    go_wp2_with fail
    obtain ⟨d0, d1⟩ := set2 (W := w2) (B := w.heap.size) (u0 := .int .i64 x) (u1 := .int .i64 y) kc4 kc5
    refine bodyPost_ret (v := .tuple #[slV x y, .int .i64 0]) (by simp [results, Tryz.results74, go_sem, d0, d1]) rfl ?_
    exact ⟨rfl, by first | (with_reducible exact hHeld.1) | (have hB := hHeld.1; have hz := hB.size; go_grown)⟩
  · have t1 : decide (0 < p) = false := by simpa using h
    have t2 : decide (0 < n) = false := by simpa using h2
    have t3 : decide (m < 0) = false := by simpa using h3
    clear L1 L2 h h2 h3
    go_enter Tryz.func74, Tryz.ntmps74
    go_wp2_with fail
    refine (CP.out _).mono ?_
    rintro e w1 ⟨rfl, hb⟩
    have hHeld : Keeps w [(B1, 0, .int .i64 n), (B1, 1, .int .i64 d), (B2, 0, .int .i64 m), (B2, 1, .int .i64 e), (w.heap.size, 0, .int .i64 0), (w.heap.size, 1, .int .i64 0)] w1 := Keeps.next ((hk.alloc _).app (newK2 (hk.alloc _))) hb
    clear hb kz0 kc0 kf0 kz1 kc1 kf1 kz2 kc2 kf2 kz3 kc3 kf3
    obtain ⟨⟨kz0, kc0, kf0⟩, ⟨kz1, kc1, kf1⟩, ⟨kz2, kc2, kf2⟩, ⟨kz3, kc3, kf3⟩, ⟨kz4, kc4, kf4⟩, ⟨kz5, kc5, kf5⟩, _⟩ := hHeld.2
    skip
    go_wp2_with fail
    obtain ⟨d0, d1⟩ := set2 (W := w1) (B := w.heap.size) (u0 := .int .i64 0) (u1 := .int .i64 1) kc4 kc5
    refine bodyPost_ret (v := .tuple #[slV 0 1, .int .i64 0]) (by simp [results, Tryz.results74, go_sem, d0, d1]) rfl ?_
    exact ⟨rfl, by first | (with_reducible exact hHeld.1) | (have hB := hHeld.1; have hz := hB.size; go_grown)⟩
set_option maxRecDepth 100000 in
set_option maxHeartbeats 4000000 in
theorem near_any (n d m e x y c : Int) (H : NearI n d m e x y c) (w : World) :
    Calls Tryz.prog 53 #[slV n d, slV m e] w (Ret w (.tuple #[slV x y, .int .i64 c])) := by
  have CS := fun v W k => checkSlopes_any [(n, d), (m, e)] (by simp) v W k
  rw [bad_two] at CS
  rcases H with ⟨h, rfl, rfl, rfl⟩ | ⟨h, H⟩
  · rw [h] at CS
    simp only [Bool.not_false, if_true] at CS
    replace CS := Lib.hid CS
    have UN := Lib.hid (fun f W => unlessS_no 151 f (by decide) W)
    clear h
    go_enter Tryz.func53, Tryz.ntmps53
    go_wp2_with fail
    refine Calls.mono (CS.out _ _ ?_) ?_
    · exact readsS_two (by simp)
    rintro e w1 ⟨rfl, hb⟩
    have hHeld : Keeps w [(w.heap.size + 2, 0, .int .i64 0), (w.heap.size + 2, 1, .int .i64 0)] _ := Keeps.next (by refine ⟨by go_grown, ?_⟩; simp [Cells, go_sem]) hb
    clear hb
    obtain ⟨⟨kz0, kc0, kf0⟩, ⟨kz1, kc1, kf1⟩, _⟩ := hHeld.2
    go_wp2_with fail
    refine (UN.out _ _).mono ?_
    rintro e w2 ⟨rfl, hb⟩
    replace hHeld := Keeps.next (hHeld) hb
    clear hb kz0 kc0 kf0 kz1 kc1 kf1
    obtain ⟨⟨kz0, kc0, kf0⟩, ⟨kz1, kc1, kf1⟩, _⟩ := hHeld.2
    go_wp2_with fail
    obtain ⟨d0, d1⟩ := set2 (W := w2) (B := w.heap.size + 2) (u0 := .int .i64 0) (u1 := .int .i64 0) kc0 kc1
    refine bodyPost_ret (v := .tuple #[slV 0 0, .int .i64 151]) (by simp [results, Tryz.results53, go_sem, d0, d1]) rfl ?_
    exact ⟨rfl, by first | (with_reducible exact hHeld.1) | (have hB := hHeld.1; have hz := hB.size; go_grown)⟩
  · rw [h] at CS
    simp only [Bool.not_true, Bool.false_eq_true, if_false] at CS
    replace CS := Lib.hid CS
    have N1 := Lib.hid (fun B1 B2 W k => near1_any n d m e x y c h H B1 B2 W k)
    have UN := Lib.hid (fun p1 p2 W k => unlessS_near p1 p2 x y c W k)
    clear h H
    go_enter Tryz.func53, Tryz.ntmps53
    go_wp2_with fail
    refine Calls.mono (CS.out _ _ ?_) ?_
    · exact readsS_two (by simp)
    rintro e w1 ⟨rfl, hb⟩
    have hHeld : Keeps w [(w.heap.size + 2, 0, .int .i64 0), (w.heap.size + 2, 1, .int .i64 0), (w.heap.size, 0, .int .i64 n), (w.heap.size, 1, .int .i64 d), (w.heap.size + 1, 0, .int .i64 m), (w.heap.size + 1, 1, .int .i64 e)] _ := Keeps.next (by refine ⟨by go_grown, ?_⟩; simp [Cells, go_sem]) hb
    clear hb
    obtain ⟨⟨kz0, kc0, kf0⟩, ⟨kz1, kc1, kf1⟩, ⟨kz2, kc2, kf2⟩, ⟨kz3, kc3, kf3⟩, ⟨kz4, kc4, kf4⟩, ⟨kz5, kc5, kf5⟩, _⟩ := hHeld.2
    go_wp2_with fail
    refine Calls.mono (UN.out _ _ _ ?_) ?_
    · intro W hW
      exact N1.out _ _ _ (hHeld.2.next hW).2.2
    rintro e w2 ⟨rfl, hb⟩
    replace hHeld := Keeps.next (hHeld) hb
    clear hb kz0 kc0 kf0 kz1 kc1 kf1 kz2 kc2 kf2 kz3 kc3 kf3 kz4 kc4 kf4 kz5 kc5 kf5
    obtain ⟨⟨kz0, kc0, kf0⟩, ⟨kz1, kc1, kf1⟩, ⟨kz2, kc2, kf2⟩, ⟨kz3, kc3, kf3⟩, ⟨kz4, kc4, kf4⟩, ⟨kz5, kc5, kf5⟩, _⟩ := hHeld.2
    go_wp2_with fail
    obtain ⟨d0, d1⟩ := set2 (W := w2) (B := w.heap.size + 2) (u0 := .int .i64 x) (u1 := .int .i64 y) kc0 kc1
    refine bodyPost_ret (v := .tuple #[slV x y, .int .i64 c]) (by simp [results, Tryz.results53, go_sem, d0, d1]) rfl ?_
    exact ⟨rfl, by first | (with_reducible exact hHeld.1) | (have hB := hHeld.1; have hz := hB.size; go_grown)⟩
end Go.Proofs.YtoephkglpbophaaGreat
