/-
  The document's own answer to Around; the law SpanAround, its walk. Conditions: those written at each fact.
-/
import Derived.Test.YtmnndbafljngiaaSrA
import Derived.Test.YtmnndbafljngiaaSpL
namespace Go.Proofs.Ytmnndbafljngiaa
open Go.RowKit

theorem i64_len (z : Int) (h1 : -9223372036854775808 ≤ z) (h2 : z ≤ 9223372036854775807) : (sizeL z.natAbs).length ≤ 64 := sizeL_length 64 _ (by omega)
theorem len_of (k : Nat) (z : Int) (h : z.natAbs < 2 ^ k) (hk : k ≤ 3990) : (sizeL z.natAbs).length ≤ 3990 := Nat.le_trans (sizeL_length k _ h) hk
/-- A span of two numbers, or none. -/
theorem ofZ_any (x y : Int) (hx : (sizeL x.natAbs).length ≤ 3998) (hy : (sizeL y.natAbs).length ≤ 3998) : ∃ q0 q1 b, (okZ x ∧ okZ y ∧ q0 = x ∧ q1 = y ∧ b = true ∨ ¬ (okZ x ∧ okZ y) ∧ q0 = 0 ∧ q1 = 0 ∧ b = false) ∧
    ∀ v v' w, NumZ w v x → NumZ w v' y → Calls Try.prog 65 #[v, v'] w (Ret w (.tuple #[spV q0 q1, .bool b])) := by
  by_cases k : okZ x ∧ okZ y
  · exact ⟨x, y, true, .inl ⟨k.1, k.2, rfl, rfl, rfl⟩, fun v v' w h h' => ofZ_good x y hx hy k.1 k.2 v v' w h h'⟩
  · exact ⟨0, 0, false, .inr ⟨k, rfl, rfl, rfl⟩, fun v v' w h h' => ofZ_bad x y hx hy k v v' w h h'⟩
set_option maxRecDepth 100000 in
set_option maxHeartbeats 4000000 in
theorem refAround_any (v far : Int) (v1 : -9223372036854775808 ≤ v) (v2 : v ≤ 9223372036854775807) (f1 : -9223372036854775808 ≤ far) (f2 : far ≤ 9223372036854775807) (q0 q1 : Int) (b : Bool)
    (OF : ∀ u u' w, NumZ w u (v - far) → NumZ w u' (v + far) → Calls Try.prog 65 #[u, u'] w (Ret w (.tuple #[spV q0 q1, .bool b]))) (w : World) : Calls Try.prog 39 #[.int .i64 v, .int .i64 far] w (Ret w (.tuple #[spV q0 q1, .bool b])) := by
  have l1 := i64_len v v1 v2
  have l2 := i64_len far f1 f2
  have I1 := Lib.hid (fun W => intZ_any v v1 v2 W)
  have I2 := Lib.hid (fun W => intZ_any far f1 f2 W)
  have SU := Lib.hid (fun u u' W k k' => subZ_any v far (by omega) (by omega) u u' W k k')
  have AD := Lib.hid (fun u u' W k k' => addZ_any v far (by omega) (by omega) u u' W k k')
  replace OF := Lib.hid OF
  clear l1 l2 v1 v2 f1 f2
  generalize v - far = x at *
  generalize v + far = y at *
  go_enter Try.func39, Try.ntmps39
  go_wp2_with fail
  refine (I1.out _).mono ?_
  rintro e w1 ⟨b1, A1, n1, c1, rfl, hb, hz1⟩
  have hHeld : Keeps w [(w.heap.size, 0, .int .i64 0), (w.heap.size, 1, .int .i64 0)] w1 := Keeps.next (by refine ⟨by go_grown, ?_⟩; simp [Cells, go_sem]) hb
  replace hz1 := Lib.hid hz1
  clear hb
  go_wp2_with fail
  refine (I2.out _).mono ?_
  rintro e w2 ⟨b2, A2, n2, c2, rfl, hb, hz2⟩
  replace hHeld := hHeld.next hb
  have HN := Lib.hid (((hz1.out.below hb).below (below_alloc w2 (.cells #[.bool b1, .slice A1 n1 c1] 39))).below (below_alloc _ (.cells #[.bool b2, .slice A2 n2 c2] 39)))
  have HD := Lib.hid ((hz2.below (below_alloc w2 (.cells #[.bool b1, .slice A1 n1 c1] 39))).below (below_alloc _ (.cells #[.bool b2, .slice A2 n2 c2] 39)))
  have hzw : w.heap.size < w2.heap.size := hHeld.2.1.1
  have hK := (hHeld.alloc (.cells #[.bool b1, .slice A1 n1 c1] 39)).alloc (.cells #[.bool b2, .slice A2 n2 c2] 39)
  have hK2 : Cells [(w2.heap.size, 0, .bool b1), (w2.heap.size, 1, .slice A1 n1 c1), (w2.heap.size + 1, 0, .bool b2), (w2.heap.size + 1, 1, .slice A2 n2 c2)] ((w2.alloc (.cells #[.bool b1, .slice A1 n1 c1] 39)).alloc (.cells #[.bool b2, .slice A2 n2 c2] 39)) :=
    ⟨⟨by simp <;> omega, by simp [go_sem], by simp [go_sem]⟩, ⟨by simp <;> omega, by simp [go_sem], by simp [go_sem]⟩, ⟨by simp, by simp [go_sem], by simp [go_sem]⟩, ⟨by simp, by simp [go_sem], by simp [go_sem]⟩, trivial⟩
  clear hb hz1 hz2 hHeld
  go_wp2_with fail
  refine region_keepsB (w0 := w) (L := [(w2.heap.size, 0, .bool b1), (w2.heap.size, 1, .slice A1 n1 c1), (w2.heap.size + 1, 0, .bool b2), (w2.heap.size + 1, 1, .slice A2 n2 c2)]) (M := [(w.heap.size, 0, .int .i64 0), (w.heap.size, 1, .int .i64 0)]) (by kernel_rfl) ⟨hK.1, hK2⟩ ⟨hK.1, hK.2.1, hK.2.2.1, trivial⟩ (fun hHeld0 hT0 => ?_)
  refine wpAnyH_take (i := 0) (oi := ⟨some 12, _, _, _, _, _⟩) (v := ?_) rfl (by kernel_rfl) (by kernel_rfl) (by kernel_rfl) (fun _ _ _ h => h) (Or.inl ⟨by rfl, ?_⟩) (by assumption) ?_
  rotate_left
  · intro wq hSw; obtain ⟨⟨qz0, qc0, qf0⟩, ⟨qz1, qc1, qf1⟩, ⟨qz2, qc2, qf2⟩, ⟨qz3, qc3, qf3⟩, _⟩ := hSw.2; go_simp; (try with_reducible rfl)
  try simp only [Act.put, List.setIfInBounds_toArray, List.set_cons_zero, List.set_cons_succ]
  refine wpAnyH_take (i := 1) (oi := ⟨some 13, _, _, _, _, _⟩) (v := ?_) rfl (by kernel_rfl) (by kernel_rfl) (by kernel_rfl) (fun _ _ _ h => h) (Or.inl ⟨by rfl, ?_⟩) (by assumption) ?_
  rotate_left
  · intro wq hSw; obtain ⟨⟨qz0, qc0, qf0⟩, ⟨qz1, qc1, qf1⟩, ⟨qz2, qc2, qf2⟩, ⟨qz3, qc3, qf3⟩, _⟩ := hSw.2; go_simp; (try with_reducible rfl)
  try simp only [Act.put, List.setIfInBounds_toArray, List.set_cons_zero, List.set_cons_succ]
  refine wpAnyH_take (i := 3) (oi := ⟨some 15, _, _, _, _, _⟩) (v := ?_) rfl (by kernel_rfl) (by kernel_rfl) (by kernel_rfl) (fun _ _ _ h => h) (Or.inl ⟨by rfl, ?_⟩) (by assumption) ?_
  rotate_left
  · intro wq hSw; obtain ⟨⟨qz0, qc0, qf0⟩, ⟨qz1, qc1, qf1⟩, ⟨qz2, qc2, qf2⟩, ⟨qz3, qc3, qf3⟩, _⟩ := hSw.2; go_simp; (try with_reducible rfl)
  try simp only [Act.put, List.setIfInBounds_toArray, List.set_cons_zero, List.set_cons_succ]
  refine wpAnyH_take (i := 4) (oi := ⟨some 16, _, _, _, _, _⟩) (v := ?_) rfl (by kernel_rfl) (by kernel_rfl) (by kernel_rfl) (fun _ _ _ h => h) (Or.inl ⟨by rfl, ?_⟩) (by assumption) ?_
  rotate_left
  · intro wq hSw; obtain ⟨⟨qz0, qc0, qf0⟩, ⟨qz1, qc1, qf1⟩, ⟨qz2, qc2, qf2⟩, ⟨qz3, qc3, qf3⟩, _⟩ := hSw.2; go_simp; (try with_reducible rfl)
  try simp only [Act.put, List.setIfInBounds_toArray, List.set_cons_zero, List.set_cons_succ]
  refine wpAnyH_ready (rs := [2]) (by kernel_rfl) (by simp) ?_
  refine AllReadyH.cons (o := ⟨some 14, _, _, _, _, _⟩) rfl (fun K hK => ?_) AllReadyH.nil
  go_simp
  (first | ((with_reducible refine (SU.out _ _ _ (HN.out.below (Below.refl _ _).drew) (HD.out.below (Below.refl _ _).drew)).mono ?_); rintro e w5 ⟨b5, A5, n5, c5, rfl, hb, hz5⟩; have HN5 := Lib.hid (HN.out.below (by exact ⟨hb.os, hb.tape, hb.output, hb.size, hb.block⟩)); have HD5 := Lib.hid (HD.out.below (by exact ⟨hb.os, hb.tape, hb.output, hb.size, hb.block⟩))) | ((with_reducible refine (AD.out _ _ _ HN5.out HD5.out).mono ?_); rintro e w6 ⟨b6, A6, n6, c6, rfl, hb, hz6⟩; have hz5' := hz5.below hb) | ((with_reducible refine (OF.out _ _ _ hz5' hz6).mono ?_); rintro e w7 ⟨rfl, hb⟩))
  refine hK.out _ _ (hHeld0.next hb) (fun hHeld1 => ?_)
  replace hT0 := hT0.next hb
  clear hK K
  try clear hb
  try simp only [Act.put, List.setIfInBounds_toArray, List.set_cons_zero, List.set_cons_succ]
  refine wpAnyH_ready (rs := [5]) (by kernel_rfl) (by simp) ?_
  refine AllReadyH.cons (o := ⟨some 17, _, _, _, _, _⟩) rfl (fun K hK => ?_) AllReadyH.nil
  go_simp
  (first | ((with_reducible refine (SU.out _ _ _ (HN.out.below (Below.refl _ _).drew) (HD.out.below (Below.refl _ _).drew)).mono ?_); rintro e w5 ⟨b5, A5, n5, c5, rfl, hb, hz5⟩; have HN5 := Lib.hid (HN.out.below (by exact ⟨hb.os, hb.tape, hb.output, hb.size, hb.block⟩)); have HD5 := Lib.hid (HD.out.below (by exact ⟨hb.os, hb.tape, hb.output, hb.size, hb.block⟩))) | ((with_reducible refine (AD.out _ _ _ HN5.out HD5.out).mono ?_); rintro e w6 ⟨b6, A6, n6, c6, rfl, hb, hz6⟩; have hz5' := hz5.below hb) | ((with_reducible refine (OF.out _ _ _ hz5' hz6).mono ?_); rintro e w7 ⟨rfl, hb⟩))
  refine hK.out _ _ (hHeld1.next hb) (fun hHeld2 => ?_)
  replace hT0 := hT0.next hb
  clear hK K
  try clear hb
  try simp only [Act.put, List.setIfInBounds_toArray, List.set_cons_zero, List.set_cons_succ]
  refine wpAnyH_ready (rs := [6]) (by kernel_rfl) (by simp) ?_
  refine AllReadyH.cons (o := ⟨some 18, _, _, _, _, _⟩) rfl (fun K hK => ?_) AllReadyH.nil
  go_simp
  (first | ((with_reducible refine (SU.out _ _ _ (HN.out.below (Below.refl _ _).drew) (HD.out.below (Below.refl _ _).drew)).mono ?_); rintro e w5 ⟨b5, A5, n5, c5, rfl, hb, hz5⟩; have HN5 := Lib.hid (HN.out.below (by exact ⟨hb.os, hb.tape, hb.output, hb.size, hb.block⟩)); have HD5 := Lib.hid (HD.out.below (by exact ⟨hb.os, hb.tape, hb.output, hb.size, hb.block⟩))) | ((with_reducible refine (AD.out _ _ _ HN5.out HD5.out).mono ?_); rintro e w6 ⟨b6, A6, n6, c6, rfl, hb, hz6⟩; have hz5' := hz5.below hb) | ((with_reducible refine (OF.out _ _ _ hz5' hz6).mono ?_); rintro e w7 ⟨rfl, hb⟩))
  refine hK.out _ _ (hHeld2.next hb) (fun hHeld3 => ?_)
  replace hT0 := hT0.next hb
  clear hK K
  try clear hb
  try simp only [Act.put, List.setIfInBounds_toArray, List.set_cons_zero, List.set_cons_succ]
  refine wpAnyH_take (i := 7) (oi := ⟨some 19, _, _, _, _, _⟩) (v := ?_) rfl (by kernel_rfl) (by kernel_rfl) (by kernel_rfl) (fun _ _ _ h => h) (Or.inl ⟨by rfl, ?_⟩) (by assumption) ?_
  rotate_left
  · intro wq hSw; go_simp; (try with_reducible rfl)
  try simp only [Act.put, List.setIfInBounds_toArray, List.set_cons_zero, List.set_cons_succ]
  refine wpAnyH_take (i := 8) (oi := ⟨some 20, _, _, _, _, _⟩) (v := ?_) rfl (by kernel_rfl) (by kernel_rfl) (by kernel_rfl) (fun _ _ _ h => h) (Or.inl ⟨by rfl, ?_⟩) (by assumption) ?_
  rotate_left
  · intro wq hSw; go_simp; (try with_reducible rfl)
  try simp only [Act.put, List.setIfInBounds_toArray, List.set_cons_zero, List.set_cons_succ]
  refine wpAnyH_ready (rs := [9]) (by kernel_rfl) (by simp) ?_
  refine AllReadyH.cons (o := ⟨none, _, _, _, _, _⟩) rfl (fun K hK => ?_) AllReadyH.nil
  obtain ⟨⟨t0z0, t0c0, t0f0⟩, ⟨t0z1, t0c1, t0f1⟩, _⟩ := hT0.2; (try simp at t0z0); (try simp at t0c0); (try simp at t0f0); (try simp at t0z1); (try simp at t0c1); (try simp at t0f1)
  go_simp
  refine hK.out _ _ (by first | exact hHeld3.alloc _ | (repeat (first | (with_reducible exact hHeld3) | (refine Keeps.set ?_ (by simp <;> omega) (by simp <;> omega) _)))) (fun hHeld4 => ?_)
  clear hK K
  try clear hb
  try simp only [Act.put, List.setIfInBounds_toArray, List.set_cons_zero, List.set_cons_succ]
  refine wpAnyH_take (i := 10) (oi := ⟨some 5, _, _, _, _, _⟩) (v := ?_) rfl (by kernel_rfl) (by kernel_rfl) (by kernel_rfl) (fun _ _ _ h => h) (Or.inl ⟨by rfl, ?_⟩) (by assumption) ?_
  rotate_left
  · intro wq hSw; go_simp; (try with_reducible rfl)
  try simp only [Act.put, List.setIfInBounds_toArray, List.set_cons_zero, List.set_cons_succ]
  refine wpAnyH_done (by kernel_rfl) ?_ _
  have hHeld := hHeld4
  obtain ⟨⟨kz0, kc0, kf0⟩, ⟨kz1, kc1, kf1⟩, ⟨kz2, kc2, kf2⟩, ⟨kz3, kc3, kf3⟩, _⟩ := hHeld.2
  all_goals
    go_wp2_with fail
    obtain ⟨d0, d1⟩ := set2 (W := w7) (B := w.heap.size) (u0 := .int .i64 q0) (u1 := .int .i64 q1) t0c0 t0c1
    refine bodyPost_ret (v := .tuple #[spV q0 q1, .bool b]) (by simp [results, Try.results39, go_sem, d0, d1]) rfl ?_
    exact ⟨rfl, hHeld.1⟩
set_option maxRecDepth 100000 in
set_option maxHeartbeats 4000000 in
theorem aroundL_walk (v far : Int) (q0 q1 cd r0 r1 : Int) (b : Bool) (wd : Int)
    (AR : ∀ W, Calls Try.prog 38 #[.int .i64 v, .int .i64 far] W (Ret W (.tuple #[spV q0 q1, .int .i64 cd]))) (RA : ∀ W, Calls Try.prog 39 #[.int .i64 v, .int .i64 far] W (Ret W (.tuple #[spV r0 r1, .bool b])))
    (WD : ∀ W, Calls Try.prog 18 #[spV q0 q1] W (Ret W (.int .u64 wd)))
    (hc : far < 0 ∧ q0 = 0 ∧ q1 = 0 ∧ cd = 2 ∨ ¬ far < 0 ∧ b = false ∧ q0 = 0 ∧ q1 = 0 ∧ cd = 5 ∨ ¬ far < 0 ∧ b = true ∧ q0 = r0 ∧ q1 = r1 ∧ cd = 0 ∧ IntKind.u64.wrap (2 * IntKind.u64.wrap far) = wd) (w : World) :
    Calls Try.prog 6 #[.int .i64 v, .int .i64 far] w (Ret w (.bool true)) := by
  have WK := Lib.hid (fun W => wakes_any W)
  replace AR := Lib.hid AR
  replace RA := Lib.hid RA
  replace WD := Lib.hid WD
  rcases hc with ⟨g, rfl, rfl, rfl⟩ | ⟨g, rfl, rfl, rfl, rfl⟩ | ⟨g, rfl, rfl, rfl, rfl, hwd⟩
  · go_enter Try.func6, Try.ntmps6
    go_wp2_with fail
    refine (WK.out _).mono ?_
    rintro e w1 ⟨rfl, hb1⟩
    have hHeld : Keeps w [] w1 := ⟨hb1, trivial⟩
    clear hb1
    go_wp2_with fail
    refine (AR.out _).mono ?_
    rintro e w2 ⟨rfl, hb⟩
    replace hHeld := hHeld.next hb
    clear hb
    go_wp2_with fail
    refine (RA.out _).mono ?_
    rintro e w3 ⟨rfl, hb⟩
    replace hHeld : Keeps w [(w2.heap.size, 0, .int .i64 0), (w2.heap.size, 1, .int .i64 0)] w3 := Keeps.next ((hHeld.alloc (.cells #[.int .i64 0, .int .i64 0] 23)).app (newK2 (hHeld.alloc (.cells #[.int .i64 0, .int .i64 0] 23)))) hb
    clear hb
    obtain ⟨⟨kz0, kc0, kf0⟩, ⟨kz1, kc1, kf1⟩, _⟩ := hHeld.2
    go_wp2_with fail
    go_ret
    exact ⟨rfl, (hHeld.alloc _).1⟩
  · go_enter Try.func6, Try.ntmps6
    go_wp2_with fail
    refine (WK.out _).mono ?_
    rintro e w1 ⟨rfl, hb1⟩
    have hHeld : Keeps w [] w1 := ⟨hb1, trivial⟩
    clear hb1
    go_wp2_with fail
    refine (AR.out _).mono ?_
    rintro e w2 ⟨rfl, hb⟩
    replace hHeld := hHeld.next hb
    clear hb
    go_wp2_with fail
    refine (RA.out _).mono ?_
    rintro e w3 ⟨rfl, hb⟩
    replace hHeld : Keeps w [(w2.heap.size, 0, .int .i64 0), (w2.heap.size, 1, .int .i64 0)] w3 := Keeps.next ((hHeld.alloc (.cells #[.int .i64 0, .int .i64 0] 23)).app (newK2 (hHeld.alloc (.cells #[.int .i64 0, .int .i64 0] 23)))) hb
    clear hb
    obtain ⟨⟨kz0, kc0, kf0⟩, ⟨kz1, kc1, kf1⟩, _⟩ := hHeld.2
    go_wp2_with fail
    go_ret
    exact ⟨rfl, (hHeld.alloc _).1⟩
  · have hb' : (IntKind.u64.wrap (2 * IntKind.u64.wrap far) == wd) = true := by rw [beq_iff_eq]; exact hwd
    have hb2 : (wd == IntKind.u64.wrap (2 * IntKind.u64.wrap far)) = true := by rw [beq_iff_eq]; exact hwd.symm
    have HWD := Lib.hid hwd
    clear hwd
    go_enter Try.func6, Try.ntmps6
    go_wp2_with fail
    refine (WK.out _).mono ?_
    rintro e w1 ⟨rfl, hb1⟩
    have hHeld : Keeps w [] w1 := ⟨hb1, trivial⟩
    clear hb1
    go_wp2_with fail
    refine (AR.out _).mono ?_
    rintro e w2 ⟨rfl, hb⟩
    replace hHeld := hHeld.next hb
    clear hb
    go_wp2_with fail
    refine (RA.out _).mono ?_
    rintro e w3 ⟨rfl, hb⟩
    replace hHeld : Keeps w [(w2.heap.size, 0, .int .i64 q0), (w2.heap.size, 1, .int .i64 q1)] w3 := Keeps.next ((hHeld.alloc (.cells #[.int .i64 q0, .int .i64 q1] 23)).app (newK2 (hHeld.alloc (.cells #[.int .i64 q0, .int .i64 q1] 23)))) hb
    clear hb
    obtain ⟨⟨kz0, kc0, kf0⟩, ⟨kz1, kc1, kf1⟩, _⟩ := hHeld.2
    go_wp2_with fail
    refine (WD.out _).mono ?_
    rintro e w4 ⟨rfl, hb⟩
    replace hHeld := (hHeld.alloc (.cells #[.int .i64 q0, .int .i64 q1] 23)).next hb
    clear hb
    go_wp2_with fail
    go_ret
    exact ⟨by first | rfl | (rw [HWD.out]; simp), hHeld.1⟩
theorem aroundL_any (v far : Int) (v1 : -9223372036854775808 ≤ v) (v2 : v ≤ 9223372036854775807) (f1 : -9223372036854775808 ≤ far) (f2 : far ≤ 9223372036854775807) (w : World) : Calls Try.prog 6 #[.int .i64 v, .int .i64 far] w (Ret w (.bool true)) := by
  have lx := len_of 70 (v - far) (by omega) (by omega)
  have ly := len_of 70 (v + far) (by omega) (by omega)
  obtain ⟨r0, r1, b, hr, OF⟩ := ofZ_any (v - far) (v + far) (by omega) (by omega)
  have RA := fun W => refAround_any v far v1 v2 f1 f2 r0 r1 b OF W
  have AR := fun W => around_any v far v1 v2 f1 f2 W
  have WD0 := fun W => width_any 0 0 (by omega) (by omega) W
  unfold aroundR at AR
  by_cases g : far < 0
  · rw [if_pos g] at AR
    exact aroundL_walk v far 0 0 2 r0 r1 b _ AR RA WD0 (.inl ⟨g, rfl, rfl, rfl⟩) w
  · rw [if_neg g] at AR
    have z1 := rr_zero (v + -far)
    have z2 := rr_zero (v + far)
    unfold betw at AR
    rcases hr with ⟨k1, k2, rfl, rfl, rfl⟩ | ⟨k, rfl, rfl, rfl⟩
    · unfold okZ at k1 k2
      rw [if_pos ⟨z1.2 (by omega), z2.2 (by omega)⟩, show v + -far = v - far by omega] at AR
      have WD := fun W => width_any (v - far) (v + far) (by omega) (by omega) W
      exact aroundL_walk v far (v - far) (v + far) 0 (v - far) (v + far) true _ AR RA WD (.inr (.inr ⟨g, rfl, rfl, rfl, rfl, by rw [if_neg (by omega)]; simp only [IntKind.wrap_u64]; omega⟩)) w
    · rw [if_neg (fun h => k ⟨by unfold okZ; have := z1.1 h.1; omega, by unfold okZ; exact z2.1 h.2⟩)] at AR
      exact aroundL_walk v far 0 0 5 0 0 false _ AR RA WD0 (.inr (.inl ⟨g, rfl, rfl, rfl, rfl⟩)) w
end Go.Proofs.Ytmnndbafljngiaa
