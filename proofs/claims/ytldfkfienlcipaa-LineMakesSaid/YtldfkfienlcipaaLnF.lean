/-
  Layer 5: slopes: Lowest, Compare, Nearest. Conditions: the numbers are of 64 bits.
-/
import Derived.Test.YtldfkfienlcipaaLnE
namespace Go.Proofs.Ytldfkfienlcipaa
open Go.RowKit

set_option maxRecDepth 100000 in
theorem unlessS_no (e : Int) (f : Value) (h : (e == 0) = false) (w : World) : Calls Try.prog 49 #[.int .i64 e, f] w (Ret w (.tuple #[slV 0 0, .int .i64 e])) := by
  go_enter Try.func49, Try.ntmps49
  go_wp2
  go_returns
  exact ⟨rfl, by go_grown⟩
set_option maxRecDepth 100000 in
theorem unlessS_low (p1 : Value) (x y c : Int) (w : World) (C : ∀ W, Below w.heap.size w W → Calls Try.prog 51 #[p1] W (Ret W (.tuple #[slV x y, .int .i64 c]))) :
    Calls Try.prog 49 #[.int .i64 0, .func (.func 51) #[] #[p1]] w (Ret w (.tuple #[slV x y, .int .i64 c])) := by
  replace C := Lib.hid C
  go_enter Try.func49, Try.ntmps49
  go_wp2_with fail
  refine (C.out _ (by go_grown)).mono ?_
  rintro e w1 ⟨rfl, hb⟩
  have hHeld : Keeps w [(w.heap.size, 0, .int .i64 0), (w.heap.size, 1, .int .i64 0)] _ := Keeps.next (by refine ⟨by go_grown, ?_⟩; simp [Cells, go_sem]) hb
  clear hb
  obtain ⟨⟨kz0, kc0, kf0⟩, ⟨kz1, kc1, kf1⟩, _⟩ := hHeld.2
  go_wp2_with fail
  obtain ⟨d0, d1⟩ := set2 (W := w1) (B := w.heap.size) (u0 := .int .i64 x) (u1 := .int .i64 y) kc0 kc1
  refine bodyPost_ret (v := .tuple #[slV x y, .int .i64 c]) (by simp [results, Try.results49, go_sem, d0, d1]) rfl ?_
  exact ⟨rfl, by first | (with_reducible exact hHeld.1) | (have hB := hHeld.1; have hz := hB.size; go_grown)⟩
set_option maxRecDepth 100000 in
theorem unlessS_near (p1 p2 : Value) (x y c : Int) (w : World) (C : ∀ W, Below w.heap.size w W → Calls Try.prog 53 #[p1, p2] W (Ret W (.tuple #[slV x y, .int .i64 c]))) :
    Calls Try.prog 49 #[.int .i64 0, .func (.func 53) #[] #[p1, p2]] w (Ret w (.tuple #[slV x y, .int .i64 c])) := by
  replace C := Lib.hid C
  go_enter Try.func49, Try.ntmps49
  go_wp2_with fail
  refine (C.out _ (by go_grown)).mono ?_
  rintro e w1 ⟨rfl, hb⟩
  have hHeld : Keeps w [(w.heap.size, 0, .int .i64 0), (w.heap.size, 1, .int .i64 0)] _ := Keeps.next (by refine ⟨by go_grown, ?_⟩; simp [Cells, go_sem]) hb
  clear hb
  obtain ⟨⟨kz0, kc0, kf0⟩, ⟨kz1, kc1, kf1⟩, _⟩ := hHeld.2
  go_wp2_with fail
  obtain ⟨d0, d1⟩ := set2 (W := w1) (B := w.heap.size) (u0 := .int .i64 x) (u1 := .int .i64 y) kc0 kc1
  refine bodyPost_ret (v := .tuple #[slV x y, .int .i64 c]) (by simp [results, Try.results49, go_sem, d0, d1]) rfl ?_
  exact ⟨rfl, by first | (with_reducible exact hHeld.1) | (have hB := hHeld.1; have hz := hB.size; go_grown)⟩
set_option maxRecDepth 100000 in
theorem low1_any (n d : Int) (h : slopeB n d = true) (B : Nat) (w : World) (hc : Cells [(B, 0, .int .i64 n), (B, 1, .int .i64 d)] w) :
    Calls Try.prog 51 #[.pointer (some ⟨B, 0, none⟩)] w (Ret w (.tuple #[slV (lowN n d) (lowD n d), .int .i64 0])) := by
  have LO := fun W => lowest_any n d h W
  generalize lowN n d = x at *
  generalize lowD n d = y at *
  replace LO := Lib.hid LO
  clear h
  obtain ⟨⟨kz0, kc0, kf0⟩, ⟨kz1, kc1, kf1⟩, _⟩ := hc
  go_enter Try.func51, Try.ntmps51
  go_wp2_with fail
  refine (LO.out _).mono ?_
  rintro e w1 ⟨rfl, hb⟩
  have hHeld : Keeps w [(w.heap.size, 0, .int .i64 0), (w.heap.size, 1, .int .i64 0)] _ := Keeps.next (by refine ⟨by go_grown, ?_⟩; simp [Cells, go_sem]) hb
  clear hb
  obtain ⟨⟨kz0, kc0, kf0⟩, ⟨kz1, kc1, kf1⟩, _⟩ := hHeld.2
  go_wp2_with fail
  obtain ⟨d0, d1⟩ := set2 (W := w1) (B := w.heap.size) (u0 := .int .i64 x) (u1 := .int .i64 y) kc0 kc1
  refine bodyPost_ret (v := .tuple #[slV x y, .int .i64 0]) (by simp [results, Try.results51, go_sem, d0, d1]) rfl ?_
  exact ⟨rfl, by first | (with_reducible exact hHeld.1) | (have hB := hHeld.1; have hz := hB.size; go_grown)⟩
/-- What Lowest tells. -/
def loN (n d : Int) : Int := if slopeB n d then lowN n d else 0
def loD (n d : Int) : Int := if slopeB n d then lowD n d else 0
def loE (n d : Int) : Int := if slopeB n d then 0 else 151
set_option maxRecDepth 100000 in
set_option maxHeartbeats 2000000 in
theorem low_any (n d : Int) (w : World) : Calls Try.prog 20 #[slV n d] w (Ret w (.tuple #[slV (loN n d) (loD n d), .int .i64 (loE n d)])) := by
  have CS := fun v W k => checkSlopes_any [(n, d)] (by simp) v W k
  unfold loN loD loE
  by_cases h : slopeB n d = true
  · have e : badL [(n, d)] = false := by simp [badL, h]
    rw [e, if_neg (by simp)] at CS
    rw [if_pos h, if_pos h, if_pos h]
    replace CS := Lib.hid CS
    have L1 := fun B W k => low1_any n d h B W k
    generalize lowN n d = x at *
    generalize lowD n d = y at *
    replace L1 := Lib.hid L1
    have UN := Lib.hid (fun p W k => unlessS_low p x y 0 W k)
    clear h e
    go_enter Try.func20, Try.ntmps20
    go_wp2_with fail
    refine Calls.mono (CS.out _ _ ?_) ?_
    · exact readsS_one (by simp)
    rintro e w1 ⟨rfl, hb⟩
    have hHeld : Keeps w [(w.heap.size, 0, .int .i64 n), (w.heap.size, 1, .int .i64 d), (w.heap.size + 1, 0, .int .i64 0), (w.heap.size + 1, 1, .int .i64 0)] _ := Keeps.next (by refine ⟨by go_grown, ?_⟩; simp [Cells, go_sem]) hb
    clear hb
    obtain ⟨⟨kz0, kc0, kf0⟩, ⟨kz1, kc1, kf1⟩, ⟨kz2, kc2, kf2⟩, ⟨kz3, kc3, kf3⟩, _⟩ := hHeld.2
    go_wp2_with fail
    refine Calls.mono (UN.out _ _ ?_) ?_
    · intro W hW
      exact L1.out _ _ ⟨(hHeld.2.next hW).1, (hHeld.2.next hW).2.1, trivial⟩
    rintro e w2 ⟨rfl, hb⟩
    replace hHeld := Keeps.next (hHeld) hb
    clear hb kz0 kc0 kf0 kz1 kc1 kf1 kz2 kc2 kf2 kz3 kc3 kf3
    obtain ⟨⟨kz0, kc0, kf0⟩, ⟨kz1, kc1, kf1⟩, ⟨kz2, kc2, kf2⟩, ⟨kz3, kc3, kf3⟩, _⟩ := hHeld.2
    go_wp2_with fail
    obtain ⟨d0, d1⟩ := set2 (W := w2) (B := w.heap.size + 1) (u0 := .int .i64 x) (u1 := .int .i64 y) kc2 kc3
    refine bodyPost_ret (v := .tuple #[slV x y, .int .i64 0]) (by simp [results, Try.results20, go_sem, d0, d1]) rfl ?_
    exact ⟨rfl, by first | (with_reducible exact hHeld.1) | (have hB := hHeld.1; have hz := hB.size; go_grown)⟩
  · have e : badL [(n, d)] = true := by simpa [badL] using h
    rw [e, if_pos rfl] at CS
    rw [if_neg h, if_neg h, if_neg h]
    replace CS := Lib.hid CS
    have UN := Lib.hid (fun f W => unlessS_no 151 f (by decide) W)
    clear h e
    go_enter Try.func20, Try.ntmps20
    go_wp2_with fail
    refine Calls.mono (CS.out _ _ ?_) ?_
    · exact readsS_one (by simp)
    rintro e w1 ⟨rfl, hb⟩
    have hHeld : Keeps w [(w.heap.size, 0, .int .i64 n), (w.heap.size, 1, .int .i64 d), (w.heap.size + 1, 0, .int .i64 0), (w.heap.size + 1, 1, .int .i64 0)] _ := Keeps.next (by refine ⟨by go_grown, ?_⟩; simp [Cells, go_sem]) hb
    clear hb
    obtain ⟨⟨kz0, kc0, kf0⟩, ⟨kz1, kc1, kf1⟩, ⟨kz2, kc2, kf2⟩, ⟨kz3, kc3, kf3⟩, _⟩ := hHeld.2
    go_wp2_with fail
    refine (UN.out _ _).mono ?_
    rintro e w2 ⟨rfl, hb⟩
    replace hHeld := Keeps.next (hHeld) hb
    clear hb kz0 kc0 kf0 kz1 kc1 kf1 kz2 kc2 kf2 kz3 kc3 kf3
    obtain ⟨⟨kz0, kc0, kf0⟩, ⟨kz1, kc1, kf1⟩, ⟨kz2, kc2, kf2⟩, ⟨kz3, kc3, kf3⟩, _⟩ := hHeld.2
    go_wp2_with fail
    obtain ⟨d0, d1⟩ := set2 (W := w2) (B := w.heap.size + 1) (u0 := .int .i64 0) (u1 := .int .i64 0) kc2 kc3
    refine bodyPost_ret (v := .tuple #[slV 0 0, .int .i64 151]) (by simp [results, Try.results20, go_sem, d0, d1]) rfl ?_
    exact ⟨rfl, by first | (with_reducible exact hHeld.1) | (have hB := hHeld.1; have hz := hB.size; go_grown)⟩
/-- What Compare tells. -/
def slopesB (n d m e : Int) : Bool := slopeB n d && slopeB m e
def cpI (n d m e : Int) : Int := if slopesB n d m e then cmpI (n * e) (m * d) else 0
theorem bad_two (n d m e : Int) : badL [(n, d), (m, e)] = !slopesB n d m e := by
  unfold badL slopesB; simp [Bool.not_and]
theorem slope_i64 {n d : Int} (h : slopeB n d = true) : I64 n ∧ I64 d := by
  have := (slopeB_iff _ _).1 h
  unfold I64; omega
set_option maxRecDepth 100000 in
set_option maxHeartbeats 2000000 in
theorem cmp_any (n d m e : Int) (w : World) : Calls Try.prog 21 #[slV n d, slV m e] w (Ret w (.tuple #[.int .i64 (cpI n d m e), .bool (slopesB n d m e)])) := by
  have CS := fun v W k => checkSlopes_any [(n, d), (m, e)] (by simp) v W k
  rw [bad_two] at CS
  unfold cpI
  cases h : slopesB n d m e
  · rw [h] at CS
    simp only [Bool.not_false, if_true] at CS
    simp only [Bool.false_eq_true, if_false]
    replace CS := Lib.hid CS
    clear h
    go_enter Try.func21, Try.ntmps21
    go_wp2_with fail
    refine Calls.mono (CS.out _ _ ?_) ?_
    · exact readsS_two (by simp)
    rintro e w1 ⟨rfl, hb⟩
    have hHeld : Keeps w [(w.heap.size, 0, .int .i64 n)] _ := Keeps.next (by refine ⟨by go_grown, ?_⟩; simp [Cells, go_sem]) hb
    clear hb
    obtain ⟨⟨kz0, kc0, kf0⟩, _⟩ := hHeld.2
    go_wp2_with fail
    go_returns
    exact ⟨rfl, hHeld.1⟩
  · rw [h] at CS
    simp only [Bool.not_true, Bool.false_eq_true, if_false] at CS
    simp only [if_true]
    replace CS := Lib.hid CS
    unfold slopesB at h
    rw [Bool.and_eq_true] at h
    obtain ⟨i1, i2⟩ := slope_i64 h.1
    obtain ⟨i3, i4⟩ := slope_i64 h.2
    have M1 := fun W => mul_any n e i1 i4 W
    have M2 := fun W => mul_any m d i3 i2 W
    have f1 := mul_fits i1 i4
    have f2 := mul_fits i3 i2
    generalize n * e = x at *
    generalize m * d = y at *
    have C1 := fun W => compare_fits x y f1 f2 W
    generalize cmpI x y = c1 at *
    clear f1 f2 h i1 i2 i3 i4
    generalize rhi x = x0 at *
    generalize rlo x = x1 at *
    generalize rhi y = y0 at *
    generalize rlo y = y1 at *
    replace M1 := Lib.hid M1
    replace M2 := Lib.hid M2
    replace C1 := Lib.hid C1
    go_enter Try.func21, Try.ntmps21
    go_wp2_with fail
    refine Calls.mono (CS.out _ _ ?_) ?_
    · exact readsS_two (by simp)
    rintro e w1 ⟨rfl, hb⟩
    have hHeld : Keeps w [(w.heap.size, 0, .int .i64 n), (w.heap.size, 1, .int .i64 d), (w.heap.size + 1, 0, .int .i64 m), (w.heap.size + 1, 1, .int .i64 e)] _ := Keeps.next (by refine ⟨by go_grown, ?_⟩; simp [Cells, go_sem]) hb
    clear hb
    obtain ⟨⟨kz0, kc0, kf0⟩, ⟨kz1, kc1, kf1⟩, ⟨kz2, kc2, kf2⟩, ⟨kz3, kc3, kf3⟩, _⟩ := hHeld.2
    go_wp2_with fail
    refine region_keeps (w0 := w) (L := [(w.heap.size, 0, .int .i64 n), (w.heap.size, 1, .int .i64 d), (w.heap.size + 1, 0, .int .i64 m), (w.heap.size + 1, 1, .int .i64 e)]) (by kernel_rfl) (by first | exact hHeld | (refine ⟨by go_grown, ?_⟩; simp [Cells, go_sem]; done)) (fun hHeld0 => ?_)
    refine wpAnyH_take (i := 0) (oi := ⟨some 11, _, _, _, _, _⟩) (v := ?_) rfl (by kernel_rfl) (by kernel_rfl) (by kernel_rfl) (fun _ _ _ h => h) (Or.inl ⟨by rfl, ?_⟩) (by assumption) ?_
    rotate_left
    · intro wq hSw; go_simp; (try with_reducible rfl)
    try simp only [Act.put, List.setIfInBounds_toArray, List.set_cons_zero, List.set_cons_succ]
    refine wpAnyH_take (i := 1) (oi := ⟨some 12, _, _, _, _, _⟩) (v := ?_) rfl (by kernel_rfl) (by kernel_rfl) (by kernel_rfl) (fun _ _ _ h => h) (Or.inl ⟨by rfl, ?_⟩) (by assumption) ?_
    rotate_left
    · intro wq hSw; obtain ⟨⟨qz0, qc0, qf0⟩, ⟨qz1, qc1, qf1⟩, ⟨qz2, qc2, qf2⟩, ⟨qz3, qc3, qf3⟩, _⟩ := hSw.2; go_simp; (try with_reducible rfl)
    try simp only [Act.put, List.setIfInBounds_toArray, List.set_cons_zero, List.set_cons_succ]
    refine wpAnyH_take (i := 2) (oi := ⟨some 13, _, _, _, _, _⟩) (v := ?_) rfl (by kernel_rfl) (by kernel_rfl) (by kernel_rfl) (fun _ _ _ h => h) (Or.inl ⟨by rfl, ?_⟩) (by assumption) ?_
    rotate_left
    · intro wq hSw; go_simp; (try with_reducible rfl)
    try simp only [Act.put, List.setIfInBounds_toArray, List.set_cons_zero, List.set_cons_succ]
    refine wpAnyH_take (i := 3) (oi := ⟨some 14, _, _, _, _, _⟩) (v := ?_) rfl (by kernel_rfl) (by kernel_rfl) (by kernel_rfl) (fun _ _ _ h => h) (Or.inl ⟨by rfl, ?_⟩) (by assumption) ?_
    rotate_left
    · intro wq hSw; obtain ⟨⟨qz0, qc0, qf0⟩, ⟨qz1, qc1, qf1⟩, ⟨qz2, qc2, qf2⟩, ⟨qz3, qc3, qf3⟩, _⟩ := hSw.2; go_simp; (try with_reducible rfl)
    try simp only [Act.put, List.setIfInBounds_toArray, List.set_cons_zero, List.set_cons_succ]
    refine wpAnyH_take (i := 5) (oi := ⟨some 16, _, _, _, _, _⟩) (v := ?_) rfl (by kernel_rfl) (by kernel_rfl) (by kernel_rfl) (fun _ _ _ h => h) (Or.inl ⟨by rfl, ?_⟩) (by assumption) ?_
    rotate_left
    · intro wq hSw; go_simp; (try with_reducible rfl)
    try simp only [Act.put, List.setIfInBounds_toArray, List.set_cons_zero, List.set_cons_succ]
    refine wpAnyH_take (i := 6) (oi := ⟨some 17, _, _, _, _, _⟩) (v := ?_) rfl (by kernel_rfl) (by kernel_rfl) (by kernel_rfl) (fun _ _ _ h => h) (Or.inl ⟨by rfl, ?_⟩) (by assumption) ?_
    rotate_left
    · intro wq hSw; obtain ⟨⟨qz0, qc0, qf0⟩, ⟨qz1, qc1, qf1⟩, ⟨qz2, qc2, qf2⟩, ⟨qz3, qc3, qf3⟩, _⟩ := hSw.2; go_simp; (try with_reducible rfl)
    try simp only [Act.put, List.setIfInBounds_toArray, List.set_cons_zero, List.set_cons_succ]
    refine wpAnyH_take (i := 7) (oi := ⟨some 18, _, _, _, _, _⟩) (v := ?_) rfl (by kernel_rfl) (by kernel_rfl) (by kernel_rfl) (fun _ _ _ h => h) (Or.inl ⟨by rfl, ?_⟩) (by assumption) ?_
    rotate_left
    · intro wq hSw; go_simp; (try with_reducible rfl)
    try simp only [Act.put, List.setIfInBounds_toArray, List.set_cons_zero, List.set_cons_succ]
    refine wpAnyH_take (i := 8) (oi := ⟨some 19, _, _, _, _, _⟩) (v := ?_) rfl (by kernel_rfl) (by kernel_rfl) (by kernel_rfl) (fun _ _ _ h => h) (Or.inl ⟨by rfl, ?_⟩) (by assumption) ?_
    rotate_left
    · intro wq hSw; obtain ⟨⟨qz0, qc0, qf0⟩, ⟨qz1, qc1, qf1⟩, ⟨qz2, qc2, qf2⟩, ⟨qz3, qc3, qf3⟩, _⟩ := hSw.2; go_simp; (try with_reducible rfl)
    try simp only [Act.put, List.setIfInBounds_toArray, List.set_cons_zero, List.set_cons_succ]
    refine wpAnyH_ready (rs := [4]) (by kernel_rfl) (by simp) ?_
    refine AllReadyH.cons (o := ⟨some 15, _, _, _, _, _⟩) rfl (fun K hK => ?_) AllReadyH.nil
    go_simp
    (first | (with_reducible refine Calls.mono (M1.out _) ?_) | (with_reducible refine Calls.mono (M2.out _) ?_) | (with_reducible refine Calls.mono (C1.out _) ?_)); rintro e w5 ⟨rfl, hb⟩
    refine hK.out _ _ (hHeld0.next hb) (fun hHeld1 => ?_)
    clear hK K
    try clear hb
    try simp only [Act.put, List.setIfInBounds_toArray, List.set_cons_zero, List.set_cons_succ]
    refine wpAnyH_ready (rs := [9]) (by kernel_rfl) (by simp) ?_
    refine AllReadyH.cons (o := ⟨some 20, _, _, _, _, _⟩) rfl (fun K hK => ?_) AllReadyH.nil
    go_simp
    (first | (with_reducible refine Calls.mono (M1.out _) ?_) | (with_reducible refine Calls.mono (M2.out _) ?_) | (with_reducible refine Calls.mono (C1.out _) ?_)); rintro e w5 ⟨rfl, hb⟩
    refine hK.out _ _ (hHeld1.next hb) (fun hHeld2 => ?_)
    clear hK K
    try clear hb
    try simp only [Act.put, List.setIfInBounds_toArray, List.set_cons_zero, List.set_cons_succ]
    refine wpAnyH_ready (rs := [10]) (by kernel_rfl) (by simp) ?_
    refine AllReadyH.cons (o := ⟨some 21, _, _, _, _, _⟩) rfl (fun K hK => ?_) AllReadyH.nil
    go_simp
    (first | (with_reducible refine Calls.mono (M1.out _) ?_) | (with_reducible refine Calls.mono (M2.out _) ?_) | (with_reducible refine Calls.mono (C1.out _) ?_)); rintro e w5 ⟨rfl, hb⟩
    refine hK.out _ _ (hHeld2.next hb) (fun hHeld3 => ?_)
    clear hK K
    try clear hb
    try simp only [Act.put, List.setIfInBounds_toArray, List.set_cons_zero, List.set_cons_succ]
    refine wpAnyH_take (i := 11) (oi := ⟨some 4, _, _, _, _, _⟩) (v := ?_) rfl (by kernel_rfl) (by kernel_rfl) (by kernel_rfl) (fun _ _ _ h => h) (Or.inl ⟨by rfl, ?_⟩) (by assumption) ?_
    rotate_left
    · intro wq hSw; go_simp; (try with_reducible rfl)
    try simp only [Act.put, List.setIfInBounds_toArray, List.set_cons_zero, List.set_cons_succ]
    refine wpAnyH_take (i := 12) (oi := ⟨some 5, _, _, _, _, _⟩) (v := ?_) rfl (by kernel_rfl) (by kernel_rfl) (by kernel_rfl) (fun _ _ _ h => h) (Or.inl ⟨by rfl, ?_⟩) (by assumption) ?_
    rotate_left
    · intro wq hSw; go_simp; (try with_reducible rfl)
    try simp only [Act.put, List.setIfInBounds_toArray, List.set_cons_zero, List.set_cons_succ]
    refine wpAnyH_done (by kernel_rfl) ?_ _
    have hHeld := hHeld3
    obtain ⟨⟨kz0, kc0, kf0⟩, ⟨kz1, kc1, kf1⟩, ⟨kz2, kc2, kf2⟩, ⟨kz3, kc3, kf3⟩, _⟩ := hHeld.2
    all_goals
      go_wp2_with fail
      go_returns
      exact ⟨rfl, hHeld.1⟩
end Go.Proofs.Ytldfkfienlcipaa
