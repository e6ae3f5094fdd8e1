/-
  Layer 5: lines that are made. Conditions: the numbers are of 64 bits.
-/
import Derived.Test.YtnacdofidmgfmaaLnF
namespace Go.Proofs.Ytnacdofidmgfmaa
open Go.RowKit

theorem newK4 {w W : World} {L : List (Nat × Nat × Value)} {a b c d : Value} {t : TypeId} (h : Keeps w L (W.alloc (.cells #[a, b, c, d] t))) :
    Keeps w [(W.heap.size, 0, a), (W.heap.size, 1, b), (W.heap.size, 2, c), (W.heap.size, 3, d)] (W.alloc (.cells #[a, b, c, d] t)) :=
  ⟨h.1, by simp [Cells, go_sem]⟩
theorem newK4d {w W : World} {L : List (Nat × Nat × Value)} {a b c d : Value} {t : TypeId} (h : Keeps w L (W.alloc (.cells #[a, b, c, d] t)).drew) :
    Keeps w [(W.heap.size, 0, a), (W.heap.size, 1, b), (W.heap.size, 2, c), (W.heap.size, 3, d)] (W.alloc (.cells #[a, b, c, d] t)).drew :=
  ⟨h.1, by simp [Cells, go_sem]⟩
set_option maxRecDepth 100000 in
theorem unlessL_no (e : Int) (f : Value) (h : (e == 0) = false) (w : World) : Calls Try.prog 50 #[.int .i64 e, f] w (Ret w (.tuple #[lnV 0 0 0 0, .int .i64 e])) := by
  go_enter Try.func50, Try.ntmps50
  go_wp2
  go_returns
  exact ⟨rfl, by go_grown⟩
set_option maxRecDepth 100000 in
theorem unlessL_of (p1 p2 : Value) (x0 x1 x2 x3 c : Int) (w : World) (C : ∀ W, Below w.heap.size w W → Calls Try.prog 52 #[p1, p2] W (Ret W (.tuple #[lnV x0 x1 x2 x3, .int .i64 c]))) :
    Calls Try.prog 50 #[.int .i64 0, .func (.func 52) #[] #[p1, p2]] w (Ret w (.tuple #[lnV x0 x1 x2 x3, .int .i64 c])) := by
  replace C := Lib.hid C
  go_enter Try.func50, Try.ntmps50
  go_wp2_with fail
  refine (C.out _ (by go_grown)).mono ?_
  rintro e w1 ⟨rfl, hb⟩
  have hHeld : Keeps w [(w.heap.size, 0, .int .i64 0), (w.heap.size, 1, .int .i64 0), (w.heap.size, 2, .int .i64 0), (w.heap.size, 3, .int .i64 0)] _ := Keeps.next (by refine ⟨by go_grown, ?_⟩; simp [Cells, go_sem]) hb
  clear hb
  obtain ⟨⟨kz0, kc0, kf0⟩, ⟨kz1, kc1, kf1⟩, ⟨kz2, kc2, kf2⟩, ⟨kz3, kc3, kf3⟩, _⟩ := hHeld.2
  go_wp2_with fail
  obtain ⟨d0, d1, d2, d3⟩ := set4 (W := w1) (B := w.heap.size) (u0 := .int .i64 x0) (u1 := .int .i64 x1) (u2 := .int .i64 x2) (u3 := .int .i64 x3) kc0 kc1 kc2 kc3
  refine bodyPost_ret (v := .tuple #[lnV x0 x1 x2 x3, .int .i64 c]) (by simp [results, Try.results50, go_sem, d0, d1, d2, d3]) rfl ?_
  exact ⟨rfl, by first | (with_reducible exact hHeld.1) | (have hB := hHeld.1; have hz := hB.size; go_grown)⟩
/-- What Of tells; what Raised tells. -/
def OfI (a n d x0 x1 x2 x3 c : Int) : Prop := backB a = false ∧ x0 = 0 ∧ x1 = 0 ∧ x2 = 0 ∧ x3 = 0 ∧ c = 2 ∨ backB a = true ∧ x0 = a ∧ x1 = 0 ∧ x2 = lowN n d ∧ x3 = lowD n d ∧ c = 0
def RaI (z n d x0 x1 x2 x3 c : Int) : Prop := ¬ (lowN n d = n ∧ lowD n d = d) ∧ x0 = 0 ∧ x1 = 0 ∧ x2 = 0 ∧ x3 = 0 ∧ c = 2 ∨ (lowN n d = n ∧ lowD n d = d) ∧ (backB (z / d) = false ∧ x0 = 0 ∧ x1 = 0 ∧ x2 = 0 ∧ x3 = 0 ∧ c = 5 ∨ backB (z / d) = true ∧ x0 = z / d ∧ x1 = z % d ∧ x2 = n ∧ x3 = d ∧ c = 0)
set_option maxRecDepth 100000 in
set_option maxHeartbeats 4000000 in
theorem of1_any (a n d x0 x1 x2 x3 c : Int) (h : slopeB n d = true) (H : OfI a n d x0 x1 x2 x3 c) (B1 B2 : Nat) (w : World) (hc : Cells [(B1, 0, .int .i64 a), (B2, 0, .int .i64 n), (B2, 1, .int .i64 d)] w) :
    Calls Try.prog 52 #[.pointer (some ⟨B1, 0, none⟩), .pointer (some ⟨B2, 0, none⟩)] w (Ret w (.tuple #[lnV x0 x1 x2 x3, .int .i64 c])) := by
  have IB := fun W => isBack_any a W
  have LO := Lib.hid (fun W => lowest_any n d h W)
  have AL := Lib.hid (fun n d a r W => along_any n d a r W)
  unfold OfI at H
  generalize lowN n d = y0 at *
  generalize lowD n d = y1 at *
  clear h
  have hk : Keeps w [(B1, 0, .int .i64 a), (B2, 0, .int .i64 n), (B2, 1, .int .i64 d)] w := ⟨Below.refl _ _, hc⟩
  obtain ⟨⟨kz0, kc0, kf0⟩, ⟨kz1, kc1, kf1⟩, ⟨kz2, kc2, kf2⟩, _⟩ := hc
  have l1 : B1 < w.heap.size := kz0
  have l2 : B2 < w.heap.size := kz1
  rcases H with ⟨g, rfl, rfl, rfl, rfl, rfl⟩ | ⟨g, rfl, rfl, rfl, rfl, rfl⟩
  · rw [g] at IB
    replace IB := Lib.hid IB
    clear LO AL g l1 l2
    go_enter Try.func52, Try.ntmps52
    go_wp2_with fail
    refine (IB.out _).mono ?_
    rintro e w1 ⟨rfl, hb⟩
    have hHeld : Keeps w [(B1, 0, .int .i64 a), (B2, 0, .int .i64 n), (B2, 1, .int .i64 d), (w.heap.size, 0, .int .i64 0), (w.heap.size, 1, .int .i64 0), (w.heap.size, 2, .int .i64 0), (w.heap.size, 3, .int .i64 0)] w1 := Keeps.next ((hk.alloc _).app (newK4 (hk.alloc _))) hb
    clear hb kz0 kc0 kf0 kz1 kc1 kf1 kz2 kc2 kf2
    obtain ⟨⟨kz0, kc0, kf0⟩, ⟨kz1, kc1, kf1⟩, ⟨kz2, kc2, kf2⟩, ⟨kz3, kc3, kf3⟩, ⟨kz4, kc4, kf4⟩, ⟨kz5, kc5, kf5⟩, ⟨kz6, kc6, kf6⟩, _⟩ := hHeld.2
    skip
    go_wp2_with fail
    obtain ⟨d0, d1, d2, d3⟩ := set4 (W := w1) (B := w.heap.size) (u0 := .int .i64 0) (u1 := .int .i64 0) (u2 := .int .i64 0) (u3 := .int .i64 0) kc3 kc4 kc5 kc6
    refine bodyPost_ret (v := .tuple #[lnV 0 0 0 0, .int .i64 2]) (by simp [results, Try.results52, go_sem, d0, d1, d2, d3]) rfl ?_
    exact ⟨rfl, by first | (with_reducible exact hHeld.1) | (have hB := hHeld.1; have hz := hB.size; go_grown)⟩
  · rw [g] at IB
    replace IB := Lib.hid IB
    clear g
    go_enter Try.func52, Try.ntmps52
    go_wp2_with fail
    refine (IB.out _).mono ?_
    rintro e w1 ⟨rfl, hb⟩
    have hHeld : Keeps w [(B1, 0, .int .i64 x0), (B2, 0, .int .i64 n), (B2, 1, .int .i64 d), (w.heap.size, 0, .int .i64 0), (w.heap.size, 1, .int .i64 0), (w.heap.size, 2, .int .i64 0), (w.heap.size, 3, .int .i64 0)] w1 := Keeps.next ((hk.alloc _).app (newK4 (hk.alloc _))) hb
    clear hb kz0 kc0 kf0 kz1 kc1 kf1 kz2 kc2 kf2
    obtain ⟨⟨kz0, kc0, kf0⟩, ⟨kz1, kc1, kf1⟩, ⟨kz2, kc2, kf2⟩, ⟨kz3, kc3, kf3⟩, ⟨kz4, kc4, kf4⟩, ⟨kz5, kc5, kf5⟩, ⟨kz6, kc6, kf6⟩, _⟩ := hHeld.2
    skip
    go_wp2_with fail
    refine region_keepsB (w0 := w) (L := [(B1, 0, .int .i64 x0), (B2, 0, .int .i64 n), (B2, 1, .int .i64 d)]) (M := [(w.heap.size, 0, .int .i64 0), (w.heap.size, 1, .int .i64 0), (w.heap.size, 2, .int .i64 0), (w.heap.size, 3, .int .i64 0)]) (by kernel_rfl) ⟨hHeld.1, ⟨kz0, kc0, kf0⟩, ⟨kz1, kc1, kf1⟩, ⟨kz2, kc2, kf2⟩, trivial⟩ ⟨hHeld.1, ⟨kz3, kc3, kf3⟩, ⟨kz4, kc4, kf4⟩, ⟨kz5, kc5, kf5⟩, ⟨kz6, kc6, kf6⟩, trivial⟩ (fun hHeld0 hT0 => ?_)
    refine wpAnyH_take (i := 0) (oi := ⟨some 8, _, _, _, _, _⟩) (v := ?_) rfl (by kernel_rfl) (by kernel_rfl) (by kernel_rfl) (fun _ _ _ h => h) (Or.inl ⟨by rfl, ?_⟩) (by assumption) ?_
    rotate_left
    · intro wq hSw; obtain ⟨⟨qz0, qc0, qf0⟩, ⟨qz1, qc1, qf1⟩, ⟨qz2, qc2, qf2⟩, _⟩ := hSw.2; go_simp; (try with_reducible rfl)
    try simp only [Act.put, List.setIfInBounds_toArray, List.set_cons_zero, List.set_cons_succ]
    refine wpAnyH_take (i := 2) (oi := ⟨some 10, _, _, _, _, _⟩) (v := ?_) rfl (by kernel_rfl) (by kernel_rfl) (by kernel_rfl) (fun _ _ _ h => h) (Or.inl ⟨by rfl, ?_⟩) (by assumption) ?_
    rotate_left
    · intro wq hSw; obtain ⟨⟨qz0, qc0, qf0⟩, ⟨qz1, qc1, qf1⟩, ⟨qz2, qc2, qf2⟩, _⟩ := hSw.2; go_simp; (try with_reducible rfl)
    try simp only [Act.put, List.setIfInBounds_toArray, List.set_cons_zero, List.set_cons_succ]
    refine wpAnyH_ready (rs := [1]) (by kernel_rfl) (by simp) ?_
    refine AllReadyH.cons (o := ⟨some 9, _, _, _, _, _⟩) rfl (fun K hK => ?_) AllReadyH.nil
    go_simp
    ((with_reducible refine Calls.mono (LO.out _) ?_); rintro e w5 ⟨rfl, hb⟩)
    refine hK.out _ _ (hHeld0.next hb) (fun hHeld1 => ?_)
    replace hT0 := hT0.next hb
    clear hK K
    try clear hb
    try simp only [Act.put, List.setIfInBounds_toArray, List.set_cons_zero, List.set_cons_succ]
    refine wpAnyH_ready (rs := [3]) (by kernel_rfl) (by simp) ?_
    refine AllReadyH.cons (o := ⟨some 11, _, _, _, _, _⟩) rfl (fun K hK => ?_) AllReadyH.nil
    go_simp
    ((with_reducible refine Calls.mono (AL.out _ _ _ _ _) ?_); rintro e w6 ⟨rfl, hb⟩)
    refine hK.out _ _ (hHeld1.next hb) (fun hHeld2 => ?_)
    replace hT0 := hT0.next hb
    clear hK K
    try clear hb
    try simp only [Act.put, List.setIfInBounds_toArray, List.set_cons_zero, List.set_cons_succ]
    refine wpAnyH_ready (rs := [4]) (by kernel_rfl) (by simp) ?_
    refine AllReadyH.cons (o := ⟨none, _, _, _, _, _⟩) rfl (fun K hK => ?_) AllReadyH.nil
    obtain ⟨⟨t0z0, t0c0, t0f0⟩, ⟨t0z1, t0c1, t0f1⟩, ⟨t0z2, t0c2, t0f2⟩, ⟨t0z3, t0c3, t0f3⟩, _⟩ := hT0.2; (try simp at t0z0); (try simp at t0c0); (try simp at t0f0); (try simp at t0z1); (try simp at t0c1); (try simp at t0f1); (try simp at t0z2); (try simp at t0c2); (try simp at t0f2); (try simp at t0z3); (try simp at t0c3); (try simp at t0f3)
    go_simp
    refine hK.out _ _ (by first | exact hHeld2.alloc _ | (repeat (first | (with_reducible exact hHeld2) | (with_reducible exact (Keeps.undrewR hHeld2)) | (refine Keeps.set ?_ (by simp <;> omega) (by simp <;> omega) _) | (with_reducible refine Keeps.drew ?_)))) (fun hHeld3 => ?_)
    clear hK K
    try clear hb
    try simp only [Act.put, List.setIfInBounds_toArray, List.set_cons_zero, List.set_cons_succ]
    refine wpAnyH_take (i := 5) (oi := ⟨some 3, _, _, _, _, _⟩) (v := ?_) rfl (by kernel_rfl) (by kernel_rfl) (by kernel_rfl) (fun _ _ _ h => h) (Or.inl ⟨by rfl, ?_⟩) (by assumption) ?_
    rotate_left
    · intro wq hSw; go_simp; (try with_reducible rfl)
    try simp only [Act.put, List.setIfInBounds_toArray, List.set_cons_zero, List.set_cons_succ]
    refine wpAnyH_done (by kernel_rfl) ?_ _
    have hHeld := hHeld3
    obtain ⟨⟨kz0, kc0, kf0⟩, ⟨kz1, kc1, kf1⟩, ⟨kz2, kc2, kf2⟩, _⟩ := hHeld.2
    all_goals
      obtain ⟨d0, d1, d2, d3⟩ := set4 (W := w6) (B := w.heap.size) (u0 := .int .i64 x0) (u1 := .int .i64 0) (u2 := .int .i64 x2) (u3 := .int .i64 x3) t0c0 t0c1 t0c2 t0c3
      go_wp2_with fail
      refine bodyPost_ret (v := .tuple #[lnV x0 0 x2 x3, .int .i64 0]) (by simp [results, Try.results52, go_sem, d0, d1, d2, d3]) rfl ?_
      exact ⟨rfl, hHeld.1⟩
set_option maxRecDepth 100000 in
set_option maxHeartbeats 4000000 in
theorem lof_any (a n d x0 x1 x2 x3 c : Int) (H : slopeB n d = false ∧ x0 = 0 ∧ x1 = 0 ∧ x2 = 0 ∧ x3 = 0 ∧ c = 151 ∨ slopeB n d = true ∧ OfI a n d x0 x1 x2 x3 c) (w : World) :
    Calls Try.prog 22 #[.int .i64 a, slV n d] w (Ret w (.tuple #[lnV x0 x1 x2 x3, .int .i64 c])) := by
  have CS := fun v W k => checkSlopes_any [(n, d)] (by simp) v W k
  rcases H with ⟨h, rfl, rfl, rfl, rfl, rfl⟩ | ⟨h, H⟩
  · have e : badL [(n, d)] = true := by simp [badL, h]
    rw [e, if_pos rfl] at CS
    replace CS := Lib.hid CS
    have UN := Lib.hid (fun f W => unlessL_no 151 f (by decide) W)
    clear h e
    go_enter Try.func22, Try.ntmps22
    go_wp2_with fail
    refine Calls.mono (CS.out _ _ ?_) ?_
    · exact readsS_one (by simp)
    rintro e w1 ⟨rfl, hb⟩
    have hHeld : Keeps w [(w.heap.size + 2, 0, .int .i64 0), (w.heap.size + 2, 1, .int .i64 0), (w.heap.size + 2, 2, .int .i64 0), (w.heap.size + 2, 3, .int .i64 0)] _ := Keeps.next (by refine ⟨by go_grown, ?_⟩; simp [Cells, go_sem]) hb
    clear hb
    obtain ⟨⟨kz0, kc0, kf0⟩, ⟨kz1, kc1, kf1⟩, ⟨kz2, kc2, kf2⟩, ⟨kz3, kc3, kf3⟩, _⟩ := hHeld.2
    go_wp2_with fail
    refine (UN.out _ _).mono ?_
    rintro e w2 ⟨rfl, hb⟩
    replace hHeld := Keeps.next (hHeld) hb
    clear hb kz0 kc0 kf0 kz1 kc1 kf1 kz2 kc2 kf2 kz3 kc3 kf3
    obtain ⟨⟨kz0, kc0, kf0⟩, ⟨kz1, kc1, kf1⟩, ⟨kz2, kc2, kf2⟩, ⟨kz3, kc3, kf3⟩, _⟩ := hHeld.2
    go_wp2_with fail
    obtain ⟨d0, d1, d2, d3⟩ := set4 (W := w2) (B := w.heap.size + 2) (u0 := .int .i64 0) (u1 := .int .i64 0) (u2 := .int .i64 0) (u3 := .int .i64 0) kc0 kc1 kc2 kc3
    refine bodyPost_ret (v := .tuple #[lnV 0 0 0 0, .int .i64 151]) (by simp [results, Try.results22, go_sem, d0, d1, d2, d3]) rfl ?_
    exact ⟨rfl, by first | (with_reducible exact hHeld.1) | (have hB := hHeld.1; have hz := hB.size; go_grown)⟩
  · have e : badL [(n, d)] = false := by simp [badL, h]
    rw [e, if_neg (by simp)] at CS
    replace CS := Lib.hid CS
    have O1 := Lib.hid (fun B1 B2 W k => of1_any a n d x0 x1 x2 x3 c h H B1 B2 W k)
    have UN := Lib.hid (fun p1 p2 W k => unlessL_of p1 p2 x0 x1 x2 x3 c W k)
    clear h e H
    go_enter Try.func22, Try.ntmps22
    go_wp2_with fail
    refine Calls.mono (CS.out _ _ ?_) ?_
    · exact readsS_one (by simp)
    rintro e w1 ⟨rfl, hb⟩
    have hHeld : Keeps w [(w.heap.size + 2, 0, .int .i64 0), (w.heap.size + 2, 1, .int .i64 0), (w.heap.size + 2, 2, .int .i64 0), (w.heap.size + 2, 3, .int .i64 0), (w.heap.size, 0, .int .i64 a), (w.heap.size + 1, 0, .int .i64 n), (w.heap.size + 1, 1, .int .i64 d)] _ := Keeps.next (by refine ⟨by go_grown, ?_⟩; simp [Cells, go_sem]) hb
    clear hb
    obtain ⟨⟨kz0, kc0, kf0⟩, ⟨kz1, kc1, kf1⟩, ⟨kz2, kc2, kf2⟩, ⟨kz3, kc3, kf3⟩, ⟨kz4, kc4, kf4⟩, ⟨kz5, kc5, kf5⟩, ⟨kz6, kc6, kf6⟩, _⟩ := hHeld.2
    go_wp2_with fail
    refine Calls.mono (UN.out _ _ _ ?_) ?_
    · intro W hW
      exact O1.out _ _ _ (hHeld.2.next hW).2.2.2.2
    rintro e w2 ⟨rfl, hb⟩
    replace hHeld := Keeps.next (hHeld) hb
    clear hb kz0 kc0 kf0 kz1 kc1 kf1 kz2 kc2 kf2 kz3 kc3 kf3 kz4 kc4 kf4 kz5 kc5 kf5 kz6 kc6 kf6
    obtain ⟨⟨kz0, kc0, kf0⟩, ⟨kz1, kc1, kf1⟩, ⟨kz2, kc2, kf2⟩, ⟨kz3, kc3, kf3⟩, ⟨kz4, kc4, kf4⟩, ⟨kz5, kc5, kf5⟩, ⟨kz6, kc6, kf6⟩, _⟩ := hHeld.2
    go_wp2_with fail
    obtain ⟨d0, d1, d2, d3⟩ := set4 (W := w2) (B := w.heap.size + 2) (u0 := .int .i64 x0) (u1 := .int .i64 x1) (u2 := .int .i64 x2) (u3 := .int .i64 x3) kc0 kc1 kc2 kc3
    refine bodyPost_ret (v := .tuple #[lnV x0 x1 x2 x3, .int .i64 c]) (by simp [results, Try.results22, go_sem, d0, d1, d2, d3]) rfl ?_
    exact ⟨rfl, by first | (with_reducible exact hHeld.1) | (have hB := hHeld.1; have hz := hB.size; go_grown)⟩
end Go.Proofs.Ytnacdofidmgfmaa
