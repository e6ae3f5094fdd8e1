/-
  The walk of the law WideProducts: products go over sums. Conditions: the numbers are of 64 and 32 bits; the table of powers of ten holds what its initialiser lays.
-/
import Derived.Test.YtdhmgcdcgbimgaaDoorBack
namespace Go.Proofs.YtdhmgcdcgbimgaaDoor
open Go.RowKit Go.Shelf

theorem i32_wf {x : Int} : (Lit.int .i32 x).wf = true ↔ -2147483648 ≤ x ∧ x ≤ 2147483647 := by
  simp [Lit.wf, IntKind.min, IntKind.max, IntKind.signed, IntKind.bits]
theorem small_mul {a c : Int} (ha : I64 a) (hc : -2147483648 ≤ c ∧ c ≤ 2147483647) : -19807040628566084398385987584 ≤ a * c ∧ a * c ≤ 19807040628566084398385987584 := by
  have hm : 0 ≤ mag c ∧ mag c ≤ 2147483648 := by unfold mag; split <;> omega
  have h := Int.mul_le_mul (mag_i64 ha).2 hm.2 hm.1 (by decide)
  have h0 := Int.mul_nonneg (mag_i64 ha).1 hm.1
  rw [mul_sgn]
  generalize mag a * mag c = p at *
  unfold sgn
  cases (!decide (a < 0) == decide (c < 0)) <;> simp <;> omega

set_option maxRecDepth 100000 in
set_option maxHeartbeats 3200000 in
theorem products_walk (a b c p1 p2 o1 o2 b1 b2 u1 u2 v1 v2 x1 x2 s1 s2 : Int) (w : World) (htab : Tab w) (hc : IntKind.i64.wrap c = c)
    (OA : ∀ w, Calls Tryd.prog 23 #[.int .i64 a] w (Ret w (wideV o1 o2)))
    (OB : ∀ w, Calls Tryd.prog 23 #[.int .i64 b] w (Ret w (wideV b1 b2)))
    (OZ : ∀ w, Calls Tryd.prog 23 #[.int .i64 0] w (Ret w (wideV 0 0)))
    (SC : ∀ w, Calls Tryd.prog 22 #[wideV o1 o2, .int .i64 b] w (Ret w (.tuple #[wideV p1 p2, .int .i64 0])))
    (MA : ∀ w, Calls Tryd.prog 24 #[.int .i64 a, .int .i64 b] w (Ret w (wideV p1 p2)))
    (MB : ∀ w, Calls Tryd.prog 24 #[.int .i64 b, .int .i64 a] w (Ret w (wideV p1 p2)))
    (MO : ∀ w, Calls Tryd.prog 24 #[.int .i64 a, .int .i64 1] w (Ret w (wideV o1 o2)))
    (MZ : ∀ w, Calls Tryd.prog 24 #[.int .i64 a, .int .i64 0] w (Ret w (wideV 0 0)))
    (MC : ∀ w, Calls Tryd.prog 24 #[.int .i64 a, .int .i64 c] w (Ret w (wideV u1 u2)))
    (MD : ∀ w, Calls Tryd.prog 24 #[.int .i64 b, .int .i64 c] w (Ret w (wideV v1 v2)))
    (AX : ∀ w, Calls Tryd.prog 14 #[wideV u1 u2, wideV v1 v2] w (Ret w (.tuple #[wideV x1 x2, .int .i64 0])))
    (AS : ∀ w, Calls Tryd.prog 14 #[wideV o1 o2, wideV b1 b2] w (Ret w (.tuple #[wideV s1 s2, .int .i64 0])))
    (SY : ∀ w, Calls Tryd.prog 22 #[wideV s1 s2, .int .i64 c] w (Ret w (.tuple #[wideV x1 x2, .int .i64 0]))) :
    Calls Tryd.prog 10 #[.int .i64 a, .int .i64 b, .int .i32 c] w (Ret w (.bool true)) := by
  have WK := wakes_on htab
  replace OA := Lib.hid OA
  replace OB := Lib.hid OB
  replace OZ := Lib.hid OZ
  replace SC := Lib.hid SC
  replace MA := Lib.hid MA
  replace MB := Lib.hid MB
  replace MO := Lib.hid MO
  replace MZ := Lib.hid MZ
  replace MC := Lib.hid MC
  replace MD := Lib.hid MD
  replace AX := Lib.hid AX
  replace AS := Lib.hid AS
  replace SY := Lib.hid SY
  clear htab
  go_enter Tryd.func10, Tryd.ntmps10
  go_wp2_with fail
  refine (WK.out _ (by go_grown)).mono ?_
  rintro e w1 ⟨rfl, hb⟩
  have hHeld : Keeps w [] _ := Keeps.next (by refine ⟨by go_grown, ?_⟩; simp [Cells, go_sem]) hb
  clear hb
  go_wp2_with fail
  refine (OA.out _).mono ?_
  rintro e w2 ⟨rfl, hb⟩
  replace hHeld := Keeps.next (hHeld) hb
  clear hb 
  go_wp2_with fail
  refine (SC.out _).mono ?_
  rintro e w3 ⟨rfl, hb⟩
  replace hHeld := Keeps.next (hHeld) hb
  clear hb 
  go_wp2_with fail
  refine region_keeps (w0 := w) (L := [(w3.heap.size, 0, .int .i64 p1), (w3.heap.size, 1, .int .u64 p2)]) (by kernel_rfl) (newK2 (hHeld.alloc _)) (fun hHeld0 => ?_)
  refine wpAnyH_take (i := 0) (oi := ⟨some 25, _, _, _, _, _⟩) (v := ?_) rfl (by kernel_rfl) (by kernel_rfl) (by kernel_rfl) (fun _ _ _ h => h) (Or.inl ⟨by rfl, ?_⟩) (by assumption) ?_
  rotate_left
  · intro wq hSw; go_simp; (try with_reducible rfl)
  try simp only [Act.put, List.setIfInBounds_toArray, List.set_cons_zero, List.set_cons_succ]
  refine wpAnyH_take (i := 1) (oi := ⟨some 26, _, _, _, _, _⟩) (v := ?_) rfl (by kernel_rfl) (by kernel_rfl) (by kernel_rfl) (fun _ _ _ h => h) (Or.inl ⟨by rfl, ?_⟩) (by assumption) ?_
  rotate_left
  · intro wq hSw; go_simp; (try with_reducible rfl)
  try simp only [Act.put, List.setIfInBounds_toArray, List.set_cons_zero, List.set_cons_succ]
  refine wpAnyH_take (i := 2) (oi := ⟨some 27, _, _, _, _, _⟩) (v := ?_) rfl (by kernel_rfl) (by kernel_rfl) (by kernel_rfl) (fun _ _ _ h => h) (Or.inl ⟨by rfl, ?_⟩) (by assumption) ?_
  rotate_left
  · intro wq hSw; go_simp; (try with_reducible rfl)
  try simp only [Act.put, List.setIfInBounds_toArray, List.set_cons_zero, List.set_cons_succ]
  refine wpAnyH_take (i := 3) (oi := ⟨some 28, _, _, _, _, _⟩) (v := ?_) rfl (by kernel_rfl) (by kernel_rfl) (by kernel_rfl) (fun _ _ _ h => h) (Or.inl ⟨by rfl, ?_⟩) (by assumption) ?_
  rotate_left
  · intro wq hSw; obtain ⟨⟨qz0, qc0, qf0⟩, ⟨qz1, qc1, qf1⟩, _⟩ := hSw.2; go_simp; (try with_reducible rfl)
  try simp only [Act.put, List.setIfInBounds_toArray, List.set_cons_zero, List.set_cons_succ]
  refine wpAnyH_take (i := 4) (oi := ⟨some 29, _, _, _, _, _⟩) (v := ?_) rfl (by kernel_rfl) (by kernel_rfl) (by kernel_rfl) (fun _ _ _ h => h) (Or.inl ⟨by rfl, ?_⟩) (by assumption) ?_
  rotate_left
  · intro wq hSw; go_simp; (try with_reducible rfl)
  try simp only [Act.put, List.setIfInBounds_toArray, List.set_cons_zero, List.set_cons_succ]
  refine wpAnyH_take (i := 5) (oi := ⟨some 30, _, _, _, _, _⟩) (v := ?_) rfl (by kernel_rfl) (by kernel_rfl) (by kernel_rfl) (fun _ _ _ h => h) (Or.inl ⟨by rfl, ?_⟩) (by assumption) ?_
  rotate_left
  · intro wq hSw; go_simp; (try with_reducible rfl)
  try simp only [Act.put, List.setIfInBounds_toArray, List.set_cons_zero, List.set_cons_succ]
  refine wpAnyH_ready (rs := [6]) (by kernel_rfl) (by simp) ?_
  refine AllReadyH.cons (o := ⟨some 31, _, _, _, _, _⟩) rfl (fun K hK => ?_) AllReadyH.nil
  go_simp
  (first | ((with_reducible refine (MA.out _).mono ?_); rintro e w4 ⟨rfl, hb⟩) | ((with_reducible refine (MB.out _).mono ?_); rintro e w4 ⟨rfl, hb⟩) | ((with_reducible refine (MO.out _).mono ?_); rintro e w4 ⟨rfl, hb⟩) | ((with_reducible refine (OA.out _).mono ?_); rintro e w4 ⟨rfl, hb⟩) | ((with_reducible refine (MZ.out _).mono ?_); rintro e w4 ⟨rfl, hb⟩) | ((with_reducible refine (OZ.out _).mono ?_); rintro e w4 ⟨rfl, hb⟩))
  refine hK.out _ _ (hHeld0.next hb) (fun hHeld1 => ?_)
  clear hK K
  try clear hb
  try simp only [Act.put, List.setIfInBounds_toArray, List.set_cons_zero, List.set_cons_succ]
  refine wpAnyH_take (i := 7) (oi := ⟨some 32, _, _, _, _, _⟩) (v := ?_) rfl (by kernel_rfl) (by kernel_rfl) (by kernel_rfl) (fun _ _ _ h => h) (Or.inl ⟨by rfl, ?_⟩) (by assumption) ?_
  rotate_left
  · intro wq hSw; go_simp; (try with_reducible rfl)
  try simp only [Act.put, List.setIfInBounds_toArray, List.set_cons_zero, List.set_cons_succ]
  refine wpAnyH_take (i := 8) (oi := ⟨some 33, _, _, _, _, _⟩) (v := ?_) rfl (by kernel_rfl) (by kernel_rfl) (by kernel_rfl) (fun _ _ _ h => h) (Or.inl ⟨by rfl, ?_⟩) (by assumption) ?_
  rotate_left
  · intro wq hSw; go_simp; (try with_reducible rfl)
  try simp only [Act.put, List.setIfInBounds_toArray, List.set_cons_zero, List.set_cons_succ]
  refine wpAnyH_take (i := 9) (oi := ⟨some 34, _, _, _, _, _⟩) (v := ?_) rfl (by kernel_rfl) (by kernel_rfl) (by kernel_rfl) (fun _ _ _ h => h) (Or.inl ⟨by rfl, ?_⟩) (by assumption) ?_
  rotate_left
  · intro wq hSw; go_simp; (try with_reducible rfl)
  try simp only [Act.put, List.setIfInBounds_toArray, List.set_cons_zero, List.set_cons_succ]
  refine wpAnyH_take (i := 10) (oi := ⟨some 35, _, _, _, _, _⟩) (v := ?_) rfl (by kernel_rfl) (by kernel_rfl) (by kernel_rfl) (fun _ _ _ h => h) (Or.inl ⟨by rfl, ?_⟩) (by assumption) ?_
  rotate_left
  · intro wq hSw; obtain ⟨⟨qz0, qc0, qf0⟩, ⟨qz1, qc1, qf1⟩, _⟩ := hSw.2; go_simp; (try with_reducible rfl)
  try simp only [Act.put, List.setIfInBounds_toArray, List.set_cons_zero, List.set_cons_succ]
  refine wpAnyH_take (i := 11) (oi := ⟨some 36, _, _, _, _, _⟩) (v := ?_) rfl (by kernel_rfl) (by kernel_rfl) (by kernel_rfl) (fun _ _ _ h => h) (Or.inl ⟨by rfl, ?_⟩) (by assumption) ?_
  rotate_left
  · intro wq hSw; go_simp; (try with_reducible rfl)
  try simp only [Act.put, List.setIfInBounds_toArray, List.set_cons_zero, List.set_cons_succ]
  refine wpAnyH_take (i := 12) (oi := ⟨some 37, _, _, _, _, _⟩) (v := ?_) rfl (by kernel_rfl) (by kernel_rfl) (by kernel_rfl) (fun _ _ _ h => h) (Or.inl ⟨by rfl, ?_⟩) (by assumption) ?_
  rotate_left
  · intro wq hSw; go_simp; (try with_reducible rfl)
  try simp only [Act.put, List.setIfInBounds_toArray, List.set_cons_zero, List.set_cons_succ]
  refine wpAnyH_ready (rs := [13]) (by kernel_rfl) (by simp) ?_
  refine AllReadyH.cons (o := ⟨some 38, _, _, _, _, _⟩) rfl (fun K hK => ?_) AllReadyH.nil
  go_simp
  (first | ((with_reducible refine (MA.out _).mono ?_); rintro e w4 ⟨rfl, hb⟩) | ((with_reducible refine (MB.out _).mono ?_); rintro e w4 ⟨rfl, hb⟩) | ((with_reducible refine (MO.out _).mono ?_); rintro e w4 ⟨rfl, hb⟩) | ((with_reducible refine (OA.out _).mono ?_); rintro e w4 ⟨rfl, hb⟩) | ((with_reducible refine (MZ.out _).mono ?_); rintro e w4 ⟨rfl, hb⟩) | ((with_reducible refine (OZ.out _).mono ?_); rintro e w4 ⟨rfl, hb⟩))
  refine hK.out _ _ (hHeld1.next hb) (fun hHeld2 => ?_)
  clear hK K
  try clear hb
  try simp only [Act.put, List.setIfInBounds_toArray, List.set_cons_zero, List.set_cons_succ]
  refine wpAnyH_take (i := 14) (oi := ⟨some 39, _, _, _, _, _⟩) (v := ?_) rfl (by kernel_rfl) (by kernel_rfl) (by kernel_rfl) (fun _ _ _ h => h) (Or.inl ⟨by rfl, ?_⟩) (by assumption) ?_
  rotate_left
  · intro wq hSw; go_simp; (try with_reducible rfl)
  try simp only [Act.put, List.setIfInBounds_toArray, List.set_cons_zero, List.set_cons_succ]
  refine wpAnyH_take (i := 15) (oi := ⟨some 40, _, _, _, _, _⟩) (v := ?_) rfl (by kernel_rfl) (by kernel_rfl) (by kernel_rfl) (fun _ _ _ h => h) (Or.inl ⟨by rfl, ?_⟩) (by assumption) ?_
  rotate_left
  · intro wq hSw; go_simp; (try with_reducible rfl)
  try simp only [Act.put, List.setIfInBounds_toArray, List.set_cons_zero, List.set_cons_succ]
  refine wpAnyH_take (i := 16) (oi := ⟨some 41, _, _, _, _, _⟩) (v := ?_) rfl (by kernel_rfl) (by kernel_rfl) (by kernel_rfl) (fun _ _ _ h => h) (Or.inl ⟨by rfl, ?_⟩) (by assumption) ?_
  rotate_left
  · intro wq hSw; go_simp; (try with_reducible rfl)
  try simp only [Act.put, List.setIfInBounds_toArray, List.set_cons_zero, List.set_cons_succ]
  refine wpAnyH_take (i := 17) (oi := ⟨some 42, _, _, _, _, _⟩) (v := ?_) rfl (by kernel_rfl) (by kernel_rfl) (by kernel_rfl) (fun _ _ _ h => h) (Or.inl ⟨by rfl, ?_⟩) (by assumption) ?_
  rotate_left
  · intro wq hSw; go_simp; (try with_reducible rfl)
  try simp only [Act.put, List.setIfInBounds_toArray, List.set_cons_zero, List.set_cons_succ]
  refine wpAnyH_take (i := 19) (oi := ⟨some 44, _, _, _, _, _⟩) (v := ?_) rfl (by kernel_rfl) (by kernel_rfl) (by kernel_rfl) (fun _ _ _ h => h) (Or.inl ⟨by rfl, ?_⟩) (by assumption) ?_
  rotate_left
  · intro wq hSw; go_simp; (try with_reducible rfl)
  try simp only [Act.put, List.setIfInBounds_toArray, List.set_cons_zero, List.set_cons_succ]
  refine wpAnyH_ready (rs := [18]) (by kernel_rfl) (by simp) ?_
  refine AllReadyH.cons (o := ⟨some 43, _, _, _, _, _⟩) rfl (fun K hK => ?_) AllReadyH.nil
  go_simp
  (first | ((with_reducible refine (MA.out _).mono ?_); rintro e w4 ⟨rfl, hb⟩) | ((with_reducible refine (MB.out _).mono ?_); rintro e w4 ⟨rfl, hb⟩) | ((with_reducible refine (MO.out _).mono ?_); rintro e w4 ⟨rfl, hb⟩) | ((with_reducible refine (OA.out _).mono ?_); rintro e w4 ⟨rfl, hb⟩) | ((with_reducible refine (MZ.out _).mono ?_); rintro e w4 ⟨rfl, hb⟩) | ((with_reducible refine (OZ.out _).mono ?_); rintro e w4 ⟨rfl, hb⟩))
  refine hK.out _ _ (hHeld2.next hb) (fun hHeld3 => ?_)
  clear hK K
  try clear hb
  try simp only [Act.put, List.setIfInBounds_toArray, List.set_cons_zero, List.set_cons_succ]
  refine wpAnyH_ready (rs := [20]) (by kernel_rfl) (by simp) ?_
  refine AllReadyH.cons (o := ⟨some 45, _, _, _, _, _⟩) rfl (fun K hK => ?_) AllReadyH.nil
  go_simp
  (first | ((with_reducible refine (MA.out _).mono ?_); rintro e w4 ⟨rfl, hb⟩) | ((with_reducible refine (MB.out _).mono ?_); rintro e w4 ⟨rfl, hb⟩) | ((with_reducible refine (MO.out _).mono ?_); rintro e w4 ⟨rfl, hb⟩) | ((with_reducible refine (OA.out _).mono ?_); rintro e w4 ⟨rfl, hb⟩) | ((with_reducible refine (MZ.out _).mono ?_); rintro e w4 ⟨rfl, hb⟩) | ((with_reducible refine (OZ.out _).mono ?_); rintro e w4 ⟨rfl, hb⟩))
  refine hK.out _ _ (hHeld3.next hb) (fun hHeld4 => ?_)
  clear hK K
  try clear hb
  try simp only [Act.put, List.setIfInBounds_toArray, List.set_cons_zero, List.set_cons_succ]
  refine wpAnyH_take (i := 21) (oi := ⟨some 46, _, _, _, _, _⟩) (v := ?_) rfl (by kernel_rfl) (by kernel_rfl) (by kernel_rfl) (fun _ _ _ h => h) (Or.inl ⟨by rfl, ?_⟩) (by assumption) ?_
  rotate_left
  · intro wq hSw; go_simp; (try with_reducible rfl)
  try simp only [Act.put, List.setIfInBounds_toArray, List.set_cons_zero, List.set_cons_succ]
  refine wpAnyH_take (i := 22) (oi := ⟨some 47, _, _, _, _, _⟩) (v := ?_) rfl (by kernel_rfl) (by kernel_rfl) (by kernel_rfl) (fun _ _ _ h => h) (Or.inl ⟨by rfl, ?_⟩) (by assumption) ?_
  rotate_left
  · intro wq hSw; go_simp; (try with_reducible rfl)
  try simp only [Act.put, List.setIfInBounds_toArray, List.set_cons_zero, List.set_cons_succ]
  refine wpAnyH_take (i := 23) (oi := ⟨some 48, _, _, _, _, _⟩) (v := ?_) rfl (by kernel_rfl) (by kernel_rfl) (by kernel_rfl) (fun _ _ _ h => h) (Or.inl ⟨by rfl, ?_⟩) (by assumption) ?_
  rotate_left
  · intro wq hSw; go_simp; (try with_reducible rfl)
  try simp only [Act.put, List.setIfInBounds_toArray, List.set_cons_zero, List.set_cons_succ]
  refine wpAnyH_take (i := 24) (oi := ⟨some 49, _, _, _, _, _⟩) (v := ?_) rfl (by kernel_rfl) (by kernel_rfl) (by kernel_rfl) (fun _ _ _ h => h) (Or.inl ⟨by rfl, ?_⟩) (by assumption) ?_
  rotate_left
  · intro wq hSw; go_simp; (try with_reducible rfl)
  try simp only [Act.put, List.setIfInBounds_toArray, List.set_cons_zero, List.set_cons_succ]
  refine wpAnyH_ready (rs := [25]) (by kernel_rfl) (by simp) ?_
  refine AllReadyH.cons (o := ⟨some 50, _, _, _, _, _⟩) rfl (fun K hK => ?_) AllReadyH.nil
  go_simp
  (first | ((with_reducible refine (MA.out _).mono ?_); rintro e w4 ⟨rfl, hb⟩) | ((with_reducible refine (MB.out _).mono ?_); rintro e w4 ⟨rfl, hb⟩) | ((with_reducible refine (MO.out _).mono ?_); rintro e w4 ⟨rfl, hb⟩) | ((with_reducible refine (OA.out _).mono ?_); rintro e w4 ⟨rfl, hb⟩) | ((with_reducible refine (MZ.out _).mono ?_); rintro e w4 ⟨rfl, hb⟩) | ((with_reducible refine (OZ.out _).mono ?_); rintro e w4 ⟨rfl, hb⟩))
  refine hK.out _ _ (hHeld4.next hb) (fun hHeld5 => ?_)
  clear hK K
  try clear hb
  try simp only [Act.put, List.setIfInBounds_toArray, List.set_cons_zero, List.set_cons_succ]
  refine wpAnyH_ready (rs := [26]) (by kernel_rfl) (by simp) ?_
  refine AllReadyH.cons (o := ⟨some 51, _, _, _, _, _⟩) rfl (fun K hK => ?_) AllReadyH.nil
  go_simp
  (first | ((with_reducible refine (MA.out _).mono ?_); rintro e w4 ⟨rfl, hb⟩) | ((with_reducible refine (MB.out _).mono ?_); rintro e w4 ⟨rfl, hb⟩) | ((with_reducible refine (MO.out _).mono ?_); rintro e w4 ⟨rfl, hb⟩) | ((with_reducible refine (OA.out _).mono ?_); rintro e w4 ⟨rfl, hb⟩) | ((with_reducible refine (MZ.out _).mono ?_); rintro e w4 ⟨rfl, hb⟩) | ((with_reducible refine (OZ.out _).mono ?_); rintro e w4 ⟨rfl, hb⟩))
  refine hK.out _ _ (hHeld5.next hb) (fun hHeld6 => ?_)
  clear hK K
  try clear hb
  try simp only [Act.put, List.setIfInBounds_toArray, List.set_cons_zero, List.set_cons_succ]
  refine wpAnyH_take (i := 27) (oi := ⟨some 52, _, _, _, _, _⟩) (v := ?_) rfl (by kernel_rfl) (by kernel_rfl) (by kernel_rfl) (fun _ _ _ h => h) (Or.inl ⟨by rfl, ?_⟩) (by assumption) ?_
  rotate_left
  · intro wq hSw; go_simp; (try with_reducible rfl)
  try simp only [Act.put, List.setIfInBounds_toArray, List.set_cons_zero, List.set_cons_succ]
  refine wpAnyH_take (i := 28) (oi := ⟨some 53, _, _, _, _, _⟩) (v := ?_) rfl (by kernel_rfl) (by kernel_rfl) (by kernel_rfl) (fun _ _ _ h => h) (Or.inl ⟨by rfl, ?_⟩) (by assumption) ?_
  rotate_left
  · intro wq hSw; go_simp; (try with_reducible rfl)
  try simp only [Act.put, List.setIfInBounds_toArray, List.set_cons_zero, List.set_cons_succ]
  refine wpAnyH_done (by kernel_rfl) ?_ _
  have hHeld := hHeld6
  obtain ⟨⟨kz0, kc0, kf0⟩, ⟨kz1, kc1, kf1⟩, _⟩ := hHeld.2
  go_wp2_with fail
  refine (MC.out _).mono ?_
  rintro e w11 ⟨rfl, hb⟩
  replace hHeld := Keeps.next (hHeld) hb
  clear hb kz0 kc0 kf0 kz1 kc1 kf1
  obtain ⟨⟨kz0, kc0, kf0⟩, ⟨kz1, kc1, kf1⟩, _⟩ := hHeld.2
  go_wp2_with fail
  refine (MD.out _).mono ?_
  rintro e w12 ⟨rfl, hb⟩
  replace hHeld := Keeps.next (hHeld) hb
  clear hb kz0 kc0 kf0 kz1 kc1 kf1
  obtain ⟨⟨kz0, kc0, kf0⟩, ⟨kz1, kc1, kf1⟩, _⟩ := hHeld.2
  go_wp2_with fail
  refine (AX.out _).mono ?_
  rintro e w13 ⟨rfl, hb⟩
  replace hHeld := Keeps.next (hHeld) hb
  clear hb kz0 kc0 kf0 kz1 kc1 kf1
  obtain ⟨⟨kz0, kc0, kf0⟩, ⟨kz1, kc1, kf1⟩, _⟩ := hHeld.2
  go_wp2_with fail
  refine (OA.out _).mono ?_
  rintro e w14 ⟨rfl, hb⟩
  replace hHeld : Keeps w [(w13.heap.size, 0, .int .i64 x1), (w13.heap.size, 1, .int .u64 x2)] _ := Keeps.next ((newK2 (hHeld.alloc _))) hb
  clear hb kz0 kc0 kf0 kz1 kc1 kf1
  obtain ⟨⟨kz0, kc0, kf0⟩, ⟨kz1, kc1, kf1⟩, _⟩ := hHeld.2
  go_wp2_with fail
  refine (OB.out _).mono ?_
  rintro e w15 ⟨rfl, hb⟩
  replace hHeld := Keeps.next (hHeld) hb
  clear hb kz0 kc0 kf0 kz1 kc1 kf1
  obtain ⟨⟨kz0, kc0, kf0⟩, ⟨kz1, kc1, kf1⟩, _⟩ := hHeld.2
  go_wp2_with fail
  refine (AS.out _).mono ?_
  rintro e w16 ⟨rfl, hb⟩
  replace hHeld := Keeps.next (hHeld) hb
  clear hb kz0 kc0 kf0 kz1 kc1 kf1
  obtain ⟨⟨kz0, kc0, kf0⟩, ⟨kz1, kc1, kf1⟩, _⟩ := hHeld.2
  go_wp2_with fail
  refine (SY.out _).mono ?_
  rintro e w17 ⟨rfl, hb⟩
  replace hHeld := Keeps.next ((hHeld.alloc _)) hb
  clear hb kz0 kc0 kf0 kz1 kc1 kf1
  obtain ⟨⟨kz0, kc0, kf0⟩, ⟨kz1, kc1, kf1⟩, _⟩ := hHeld.2
  go_wp2_with fail
  go_ret
  exact ⟨by simp, (hHeld.alloc _).1⟩

theorem products_any (a b c : Int) (ha : I64 a) (hb : I64 b) (hc : -2147483648 ≤ c ∧ c ≤ 2147483647) (w : World) (htab : Tab w) :
    Calls Tryd.prog 10 #[.int .i64 a, .int .i64 b, .int .i32 c] w (Ret w (.bool true)) := by
  have ic : I64 c := ⟨by omega, by omega⟩
  have bd : ∀ x y : Int, I64 x → I64 y → Fits (x * y) := fun x y h k => mul_fits h k
  have fi : ∀ x : Int, I64 x → Fits x := fun x h => by obtain ⟨h1, h2⟩ := h; unfold Fits; omega
  have fs : Fits (a + b) := by obtain ⟨_, _⟩ := ha; obtain ⟨_, _⟩ := hb; unfold Fits; omega
  have e : a * c + b * c = (a + b) * c := (Int.add_mul a b c).symm
  have fx : Fits (a * c + b * c) := by
    have h1 := small_mul ha hc
    have h2 := small_mul hb hc
    generalize a * c = u at *
    generalize b * c = v at *
    unfold Fits
    omega
  have z1 : rhi 0 = 0 := by simp [rhi, Fits]
  have z2 : rlo 0 = 0 := by simp [rlo, Fits]
  have cd : ∀ z, Fits z → rcode z = 0 := fun z h => by unfold rcode; rw [if_pos h]
  have i0 : I64 0 := ⟨by omega, by omega⟩
  have i1 : I64 1 := ⟨by omega, by omega⟩
  refine products_walk a b c (rhi (a * b)) (rlo (a * b)) (rhi a) (rlo a) (rhi b) (rlo b) (rhi (a * c)) (rlo (a * c)) (rhi (b * c)) (rlo (b * c)) (rhi ((a + b) * c)) (rlo ((a + b) * c)) (rhi (a + b)) (rlo (a + b)) w htab
    (by rw [IntKind.wrap_i64]; omega) (of_any a ha) (of_any b hb) ?_ ?_ (mul_any a b ha hb) ?_ ?_ ?_ (mul_any a c ha ic) (mul_any b c hb ic) ?_ ?_ ?_
  · intro w
    have := of_any 0 i0 w
    rw [z1, z2] at this
    exact this
  · intro w
    have := scale_any _ _ b (rhi_i64 a) (rlo_u64 a) hb w
    unfold roomV at this
    rw [val_r (fi a ha), cd _ (bd a b ha hb)] at this
    exact this
  · intro w
    have := mul_any b a hb ha w
    rw [Int.mul_comm] at this
    exact this
  · intro w
    have := mul_any a 1 ha i1 w
    rw [Int.mul_one] at this
    exact this
  · intro w
    have := mul_any a 0 ha i0 w
    rw [Int.mul_zero, z1, z2] at this
    exact this
  · intro w
    have := add_any _ _ _ _ (rhi_i64 (a * c)) (rlo_u64 (a * c)) (rhi_i64 (b * c)) (rlo_u64 (b * c)) w
    unfold roomV at this
    rw [val_r (bd a c ha ic), val_r (bd b c hb ic), cd _ fx, e] at this
    exact this
  · intro w
    have := add_any _ _ _ _ (rhi_i64 a) (rlo_u64 a) (rhi_i64 b) (rlo_u64 b) w
    unfold roomV at this
    rw [val_r (fi a ha), val_r (fi b hb), cd _ fs] at this
    exact this
  · intro w
    have := scale_any _ _ c (rhi_i64 (a + b)) (rlo_u64 (a + b)) ic w
    unfold roomV at this
    rw [val_r fs, cd _ (e ▸ fx)] at this
    exact this
end Go.Proofs.YtdhmgcdcgbimgaaDoor
