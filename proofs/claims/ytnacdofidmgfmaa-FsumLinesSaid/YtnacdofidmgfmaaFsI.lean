/-
  Layer 6: the law's helpers. Conditions: those written at each fact.
-/
import Derived.Test.YtnacdofidmgfmaaFsH
namespace Go.Proofs.Ytnacdofidmgfmaa
open Go.RowKit

theorem low_any (n : Int) (h : I64 n) (w : World) :
    Calls Try.prog 21 #[.int .i64 n] w (Ret w (wideV (rhi n) (rlo n))) := by
  obtain ⟨h1, h2⟩ := h
  have e1 : rhi n = n / 9223372036854775808 := by unfold rhi; rw [if_pos (by unfold Fits; omega)]; omega
  have e2 : rlo n = IntKind.u64.wrap n := by unfold rlo; rw [if_pos (by unfold Fits; omega), IntKind.wrap_u64]
  rw [e1, e2]
  clear e1 e2
  go_enter Try.func21, Try.ntmps21
  go_wp2
  go_returns
  exact ⟨rfl, by go_grown⟩
/-- Two cells of a block of one's own are stored into. -/
theorem Keeps.put2 {w W : World} {B : Nat} {a b : Value} (h : Keeps w [(B, 0, a), (B, 1, b)] W) (hB : w.heap.size ≤ B) (u0 u1 : Value) : Keeps w [(B, 0, u0), (B, 1, u1)] ((W.setCell ⟨B, 0, none⟩ u0).setCell ⟨B, 1, none⟩ u1) := by
  obtain ⟨d0, d1⟩ := set2 (u0 := u0) (u1 := u1) h.2.1.2.1 h.2.2.1.2.1
  refine ⟨(h.1.setCell hB u0).setCell hB u1, ⟨by simpa using h.2.1.1, d0, ?_⟩, ⟨by simpa using h.2.1.1, d1, ?_⟩, trivial⟩
  · simp only [World.frozen?_setCell]; exact h.2.1.2.2
  · simp only [World.frozen?_setCell]; exact h.2.2.1.2.2
set_option maxRecDepth 100000 in
theorem plus6_any (x y k : Int) (hx : Fits x) (hy : Fits y) (hk : I64 k) (f1 : Fits (y * k)) (f2 : Fits (x + y * k)) (w : World) :
    Calls Try.prog 20 #[wideV (rhi x) (rlo x), wideV (rhi y) (rlo y), .int .i64 k] w (Ret w (wideV (rhi (x + y * k)) (rlo (x + y * k)))) := by
  have SC := Lib.hid (fun W => scale_fits y k hy hk f1 W)
  have AD := Lib.hid (fun W => add_fits x (y * k) hx f1 f2 W)
  clear hk hy hx f1 f2
  generalize rhi (x + y * k) = p0 at *
  generalize rlo (x + y * k) = p1 at *
  generalize rhi (y * k) = q0 at *
  generalize rlo (y * k) = q1 at *
  generalize rhi y = y0 at *
  generalize rlo y = y1 at *
  generalize rhi x = x0 at *
  generalize rlo x = x1 at *
  go_enter Try.func20, Try.ntmps20
  go_wp2_with fail
  refine (SC.out _).mono ?_
  rintro e w1 ⟨rfl, hb⟩
  have hHeld : Keeps w [(w.heap.size, 0, .int .i64 x0), (w.heap.size, 1, .int .u64 x1), (w.heap.size + 1 + 1, 0, .int .i64 0), (w.heap.size + 1 + 1, 1, .int .u64 0)] _ := Keeps.next (by refine ⟨by go_grown, ?_⟩; simp [Cells, go_sem]) hb
  clear hb
  obtain ⟨⟨kz0, kc0, kf0⟩, ⟨kz1, kc1, kf1⟩, ⟨kz2, kc2, kf2⟩, ⟨kz3, kc3, kf3⟩, _⟩ := hHeld.2
  go_wp2_with fail
  refine (AD.out _).mono ?_
  rintro e w2 ⟨rfl, hb⟩
  replace hHeld := (hHeld.alloc _).next hb
  clear hb
  (try clear hHeld0); (try clear hHeld1); (try clear hHeld2); (try clear hHeld3); (try clear hHeld4); (try clear hHeld5); (try clear hHeld6); (try clear hHeld7); (try clear hHeld8); (try clear hHeld9); (try clear hHeld10); (try clear hHeld11); (try clear hHeld12); (try clear hHeld13); (try clear hT0); (try clear kz0 kc0 kf0); (try clear kz1 kc1 kf1); (try clear kz2 kc2 kf2); (try clear kz3 kc3 kf3); (try clear kz4 kc4 kf4); (try clear kz5 kc5 kf5); (try clear kz6 kc6 kf6); (try clear kz7 kc7 kf7); (try clear kz8 kc8 kf8); (try clear kz9 kc9 kf9); (try clear kz10 kc10 kf10); (try clear kz11 kc11 kf11); (try clear kz12 kc12 kf12); (try clear kz13 kc13 kf13); (try clear t0z0 t0c0 t0f0); (try clear t0z1 t0c1 t0f1)
  obtain ⟨⟨kz0, kc0, kf0⟩, ⟨kz1, kc1, kf1⟩, ⟨kz2, kc2, kf2⟩, ⟨kz3, kc3, kf3⟩, _⟩ := hHeld.2
  go_wp2_with fail
  have hS := (((hHeld.sub (L' := [(w.heap.size + 1 + 1, 0, .int .i64 0), (w.heap.size + 1 + 1, 1, .int .u64 0)]) (by simp)).put2 (by omega) (.int .i64 p0) (.int .u64 p1)).alloc (.cells #[.int .i64 p0, .int .u64 p1] 24))
  have d0 := hS.2.1.2.1
  have d1 := hS.2.2.1.2.1
  refine bodyPost_ret (v := wideV p0 p1) (by simp [results, Try.results20, go_sem, d0, d1]) rfl ?_
  exact ⟨rfl, hS.1⟩
abbrev rowV (n ah al bh bl m : Int) : Value := .agg #[.int .i64 n, .int .i64 ah, .int .u64 al, .int .i64 bh, .int .u64 bl, .int .i64 m]
set_option maxRecDepth 100000 in
set_option maxHeartbeats 2000000 in
theorem near_any (n ah al bh bl m : Int) (w : World) : Calls Try.prog 18 #[rowV n ah al bh bl m] w (Ret w (rowV (max n 0 % 257) (ah.tmod 68719476736) al (bh.tmod 68719476736) bl (max m 0 % 281474976710656 + 1))) := by
  have e1 : IntKind.i64.wrap (max m 0 % 281474976710656 + 1) = max m 0 % 281474976710656 + 1 := by rw [IntKind.wrap_i64]; omega
  go_enter Try.func18, Try.ntmps18
  go_wp2_with fail
  refine bodyPost_ret (v := rowV (max n 0 % 257) (ah.tmod 68719476736) al (bh.tmod 68719476736) bl (max m 0 % 281474976710656 + 1)) (by simp [results, Try.results18, go_sem, *]) rfl ?_
  exact ⟨rfl, by go_grown⟩
set_option maxRecDepth 100000 in
set_option maxHeartbeats 2000000 in
/-- What asks tells of a row that may be asked for. -/
theorem asks_any (n : Nat) (a b m : Int) (hn : n ≤ 256) (ha : termB a = true) (hb : termB b = true) (hm0 : 1 ≤ m) (hm1 : m ≤ 281474976710656) (w : World) :
    Calls Try.prog 19 #[rowV n (rhi a) (rlo a) (rhi b) (rlo b) m] w (Ret w (.tuple #[wideV (rhi (floorS n a b m)) (rlo (floorS n a b m)), .bool true])) := by
  have S := fun W => sum_any n a b m (term_fits ha) (term_fits hb) W
  have hs : stepsB n a b m = true := (stepsB_iff _ _ _ _).2 ⟨⟨by omega, by omega⟩, ha, hb, hm0, hm1⟩
  have e1 : stE n a b m = 0 := by unfold stE; rw [if_pos hs]
  have e2 : suQ n a b m = floorS n a b m := by unfold suQ; rw [if_pos hs, Int.toNat_natCast]
  rw [e1, e2] at S
  replace S := Lib.hid S
  clear hs e1 e2 hn ha hb hm0 hm1
  generalize floorS n a b m = T at *
  generalize rhi T = T0 at *
  generalize rlo T = T1 at *
  generalize rhi a = a0 at *
  generalize rlo a = a1 at *
  generalize rhi b = b0 at *
  generalize rlo b = b1 at *
  go_enter Try.func19, Try.ntmps19
  go_wp2_with fail
  refine (S.out _).mono ?_
  rintro e w1 ⟨rfl, hb⟩
  have hHeld : Keeps w [(w.heap.size + 1, 0, .int .i64 0), (w.heap.size + 1, 1, .int .u64 0)] _ := Keeps.next (by refine ⟨by go_grown, ?_⟩; simp [Cells, go_sem]) hb
  clear hb
  obtain ⟨⟨kz0, kc0, kf0⟩, ⟨kz1, kc1, kf1⟩, _⟩ := hHeld.2
  go_wp2_with fail
  have hS := (hHeld.put2 (by omega) (.int .i64 T0) (.int .u64 T1)).alloc (.cells #[.int .i64 T0, .int .u64 T1] 24)
  have d0 := hS.2.1.2.1
  have d1 := hS.2.2.1.2.1
  refine bodyPost_ret (v := .tuple #[wideV T0 T1, .bool true]) (by simp [results, Try.results19, go_sem, d0, d1]) rfl ?_
  exact ⟨rfl, hS.1⟩
theorem suQ_told : suQ 4 3 1 2 = 10 ∧ suQ 3 (-1) 0 2 = -2 ∧ reQ 4 3 1 2 = 2 ∧ stE 4 3 1 2 = 0 ∧ stE 3 (-1) 0 2 = 0 ∧ stE 257 0 0 1 = 2 ∧ suQ 257 0 0 1 = 0 ∧ lwQ 10 1 (-3) 2 0 1 3 = 26 ∧ lwE 10 1 (-3) 2 0 1 3 = 0 := by
  refine ⟨?_, ?_, ?_, ?_, ?_, ?_, ?_, ?_, ?_⟩ <;> kernel_rfl
set_option maxRecDepth 100000 in
set_option maxHeartbeats 2000000 in
theorem wakes6_any (w : World) : Calls Try.prog 11 #[] w (Ret w (.bool true)) := by
  obtain ⟨s1, s2, s3, s4, s5, s6, s7, s8, s9⟩ := suQ_told
  have ff : ∀ z : Int, -1000 ≤ z → z ≤ 1000 → Fits z := fun z h1 h2 => by unfold Fits; omega
  have LO := Lib.hid (fun n (h : -1000 ≤ n ∧ n ≤ 1000) W => low_any n (by unfold I64; omega) W)
  have A1 := fun W => sum_any 4 3 1 2 (ff _ (by omega) (by omega)) (ff _ (by omega) (by omega)) W
  have A2 := fun W => sum_any 3 (-1) 0 2 (ff _ (by omega) (by omega)) (ff _ (by omega) (by omega)) W
  have A3 := fun W => rests_any 4 3 1 2 (ff _ (by omega) (by omega)) (ff _ (by omega) (by omega)) W
  have A4 := fun W => line6_any 10 1 (-3) 2 0 1 3 W
  have A5 := fun W => sum_any 257 0 0 1 (ff _ (by omega) (by omega)) (ff _ (by omega) (by omega)) W
  rw [s1, s4] at A1
  rw [s2, s5] at A2
  rw [s3, s4] at A3
  rw [s8, s9] at A4
  rw [s6, s7] at A5
  replace A1 := Lib.hid A1
  replace A2 := Lib.hid A2
  replace A3 := Lib.hid A3
  replace A4 := Lib.hid A4
  replace A5 := Lib.hid A5
  clear s1 s2 s3 s4 s5 s6 s7 s8 s9 ff
  have L1 := Lib.hid (LO.out 10 (by omega))
  have L2 := Lib.hid (LO.out (-2) (by omega))
  have L3 := Lib.hid (LO.out 26 (by omega))
  generalize rhi 10 = v0 at *
  generalize rlo 10 = v1 at *
  generalize rhi 26 = v2 at *
  generalize rlo 26 = v3 at *
  generalize rhi (-2) = v4 at *
  generalize rlo (-2) = v5 at *
  go_enter Try.func11, Try.ntmps11
  go_wp2_with fail
  refine (LO.out 3 (by omega) _).mono ?_
  rintro e w1 ⟨rfl, hb⟩
  have hS : Keeps w [] w1 := ⟨hb, trivial⟩
  clear hb
  go_wp2_with fail
  refine (LO.out 1 (by omega) _).mono ?_
  rintro e w2 ⟨rfl, hb⟩
  replace hS := hS.next hb
  clear hb
  go_wp2_with fail
  refine (A1.out _).mono ?_
  rintro e w3 ⟨rfl, hb⟩
  replace hS := hS.next hb
  clear hb
  go_wp2_with fail
  refine (LO.out (-1) (by omega) _).mono ?_
  rintro e w4 ⟨rfl, hb⟩
  replace hS := ((hS.alloc _).app (newK2 (hS.alloc _))).next hb
  clear hb
  go_wp2_with fail
  refine (LO.out 0 (by omega) _).mono ?_
  rintro e w5 ⟨rfl, hb⟩
  replace hS := hS.next hb
  clear hb
  go_wp2_with fail
  refine (A2.out _).mono ?_
  rintro e w6 ⟨rfl, hb⟩
  replace hS := hS.next hb
  clear hb
  go_wp2_with fail
  refine (LO.out 3 (by omega) _).mono ?_
  rintro e w7 ⟨rfl, hb⟩
  replace hS := ((hS.alloc _).app (newK2 (hS.alloc _))).next hb
  clear hb
  go_wp2_with fail
  refine (LO.out 1 (by omega) _).mono ?_
  rintro e w8 ⟨rfl, hb⟩
  replace hS := hS.next hb
  clear hb
  go_wp2_with fail
  refine (A3.out _).mono ?_
  rintro e w9 ⟨rfl, hb⟩
  replace hS := hS.next hb
  clear hb
  go_wp2_with fail
  refine (A4.out _).mono ?_
  rintro e w10 ⟨rfl, hb⟩
  replace hS := hS.next hb
  clear hb
  go_wp2_with fail
  refine (LO.out 0 (by omega) _).mono ?_
  rintro e w11 ⟨rfl, hb⟩
  replace hS := ((hS.alloc _).app (newK2 (hS.alloc _))).next hb
  clear hb
  go_wp2_with fail
  refine (LO.out 0 (by omega) _).mono ?_
  rintro e w12 ⟨rfl, hb⟩
  replace hS := hS.next hb
  clear hb
  go_wp2_with fail
  refine (A5.out _).mono ?_
  rintro e w13 ⟨rfl, hb⟩
  replace hS := hS.next hb
  obtain ⟨⟨kz0, kc0, kf0⟩, ⟨kz1, kc1, kf1⟩, ⟨kz2, kc2, kf2⟩, ⟨kz3, kc3, kf3⟩, ⟨kz4, kc4, kf4⟩, ⟨kz5, kc5, kf5⟩, _⟩ := hS.2
  clear hb
  go_wp2_with fail
  refine region_keeps (w0 := w) (L := [(w3.heap.size, 0, .int .i64 v0), (w3.heap.size, 1, .int .u64 v1), (w6.heap.size, 0, .int .i64 v4), (w6.heap.size, 1, .int .u64 v5), (w10.heap.size, 0, .int .i64 v2), (w10.heap.size, 1, .int .u64 v3)]) (by kernel_rfl) (hS.alloc _) (fun hHeld0 => ?_)
  refine wpAnyH_take (i := 0) (oi := ⟨some 40, _, _, _, _, _⟩) (v := ?_) rfl (by kernel_rfl) (by kernel_rfl) (by kernel_rfl) (fun _ _ _ h => h) (Or.inl ⟨by rfl, ?_⟩) (by assumption) ?_
  rotate_left
  · intro wq hSw; go_simp; (try with_reducible rfl)
  try simp only [Act.put, List.setIfInBounds_toArray, List.set_cons_zero, List.set_cons_succ]
  refine wpAnyH_take (i := 1) (oi := ⟨some 41, _, _, _, _, _⟩) (v := ?_) rfl (by kernel_rfl) (by kernel_rfl) (by kernel_rfl) (fun _ _ _ h => h) (Or.inl ⟨by rfl, ?_⟩) (by assumption) ?_
  rotate_left
  · intro wq hSw; go_simp; (try with_reducible rfl)
  try simp only [Act.put, List.setIfInBounds_toArray, List.set_cons_zero, List.set_cons_succ]
  refine wpAnyH_take (i := 2) (oi := ⟨some 42, _, _, _, _, _⟩) (v := ?_) rfl (by kernel_rfl) (by kernel_rfl) (by kernel_rfl) (fun _ _ _ h => h) (Or.inl ⟨by rfl, ?_⟩) (by assumption) ?_
  rotate_left
  · intro wq hSw; go_simp; (try with_reducible rfl)
  try simp only [Act.put, List.setIfInBounds_toArray, List.set_cons_zero, List.set_cons_succ]
  refine wpAnyH_take (i := 3) (oi := ⟨some 43, _, _, _, _, _⟩) (v := ?_) rfl (by kernel_rfl) (by kernel_rfl) (by kernel_rfl) (fun _ _ _ h => h) (Or.inl ⟨by rfl, ?_⟩) (by assumption) ?_
  rotate_left
  · intro wq hSw; go_simp; (try with_reducible rfl)
  try simp only [Act.put, List.setIfInBounds_toArray, List.set_cons_zero, List.set_cons_succ]
  refine wpAnyH_take (i := 4) (oi := ⟨some 44, _, _, _, _, _⟩) (v := ?_) rfl (by kernel_rfl) (by kernel_rfl) (by kernel_rfl) (fun _ _ _ h => h) (Or.inl ⟨by rfl, ?_⟩) (by assumption) ?_
  rotate_left
  · intro wq hSw; go_simp; (try with_reducible rfl)
  try simp only [Act.put, List.setIfInBounds_toArray, List.set_cons_zero, List.set_cons_succ]
  refine wpAnyH_take (i := 5) (oi := ⟨some 45, _, _, _, _, _⟩) (v := ?_) rfl (by kernel_rfl) (by kernel_rfl) (by kernel_rfl) (fun _ _ _ h => h) (Or.inl ⟨by rfl, ?_⟩) (by assumption) ?_
  rotate_left
  · intro wq hSw; go_simp; (try with_reducible rfl)
  try simp only [Act.put, List.setIfInBounds_toArray, List.set_cons_zero, List.set_cons_succ]
  refine wpAnyH_take (i := 6) (oi := ⟨some 46, _, _, _, _, _⟩) (v := ?_) rfl (by kernel_rfl) (by kernel_rfl) (by kernel_rfl) (fun _ _ _ h => h) (Or.inl ⟨by rfl, ?_⟩) (by assumption) ?_
  rotate_left
  · intro wq hSw; go_simp; (try with_reducible rfl)
  try simp only [Act.put, List.setIfInBounds_toArray, List.set_cons_zero, List.set_cons_succ]
  refine wpAnyH_take (i := 7) (oi := ⟨some 47, _, _, _, _, _⟩) (v := ?_) rfl (by kernel_rfl) (by kernel_rfl) (by kernel_rfl) (fun _ _ _ h => h) (Or.inl ⟨by rfl, ?_⟩) (by assumption) ?_
  rotate_left
  · intro wq hSw; go_simp; (try with_reducible rfl)
  try simp only [Act.put, List.setIfInBounds_toArray, List.set_cons_zero, List.set_cons_succ]
  refine wpAnyH_take (i := 8) (oi := ⟨some 48, _, _, _, _, _⟩) (v := ?_) rfl (by kernel_rfl) (by kernel_rfl) (by kernel_rfl) (fun _ _ _ h => h) (Or.inl ⟨by rfl, ?_⟩) (by assumption) ?_
  rotate_left
  · intro wq hSw; go_simp; (try with_reducible rfl)
  try simp only [Act.put, List.setIfInBounds_toArray, List.set_cons_zero, List.set_cons_succ]
  refine wpAnyH_take (i := 9) (oi := ⟨some 49, _, _, _, _, _⟩) (v := ?_) rfl (by kernel_rfl) (by kernel_rfl) (by kernel_rfl) (fun _ _ _ h => h) (Or.inl ⟨by rfl, ?_⟩) (by assumption) ?_
  rotate_left
  · intro wq hSw; go_simp; (try with_reducible rfl)
  try simp only [Act.put, List.setIfInBounds_toArray, List.set_cons_zero, List.set_cons_succ]
  refine wpAnyH_take (i := 10) (oi := ⟨some 50, _, _, _, _, _⟩) (v := ?_) rfl (by kernel_rfl) (by kernel_rfl) (by kernel_rfl) (fun _ _ _ h => h) (Or.inl ⟨by rfl, ?_⟩) (by assumption) ?_
  rotate_left
  · intro wq hSw; go_simp; (try with_reducible rfl)
  try simp only [Act.put, List.setIfInBounds_toArray, List.set_cons_zero, List.set_cons_succ]
  refine wpAnyH_take (i := 11) (oi := ⟨some 51, _, _, _, _, _⟩) (v := ?_) rfl (by kernel_rfl) (by kernel_rfl) (by kernel_rfl) (fun _ _ _ h => h) (Or.inl ⟨by rfl, ?_⟩) (by assumption) ?_
  rotate_left
  · intro wq hSw; go_simp; (try with_reducible rfl)
  try simp only [Act.put, List.setIfInBounds_toArray, List.set_cons_zero, List.set_cons_succ]
  refine wpAnyH_take (i := 12) (oi := ⟨some 52, _, _, _, _, _⟩) (v := ?_) rfl (by kernel_rfl) (by kernel_rfl) (by kernel_rfl) (fun _ _ _ h => h) (Or.inl ⟨by rfl, ?_⟩) (by assumption) ?_
  rotate_left
  · intro wq hSw; go_simp; (try with_reducible rfl)
  try simp only [Act.put, List.setIfInBounds_toArray, List.set_cons_zero, List.set_cons_succ]
  refine wpAnyH_take (i := 13) (oi := ⟨some 53, _, _, _, _, _⟩) (v := ?_) rfl (by kernel_rfl) (by kernel_rfl) (by kernel_rfl) (fun _ _ _ h => h) (Or.inl ⟨by rfl, ?_⟩) (by assumption) ?_
  rotate_left
  · intro wq hSw; go_simp; (try with_reducible rfl)
  try simp only [Act.put, List.setIfInBounds_toArray, List.set_cons_zero, List.set_cons_succ]
  refine wpAnyH_take (i := 14) (oi := ⟨some 54, _, _, _, _, _⟩) (v := ?_) rfl (by kernel_rfl) (by kernel_rfl) (by kernel_rfl) (fun _ _ _ h => h) (Or.inl ⟨by rfl, ?_⟩) (by assumption) ?_
  rotate_left
  · intro wq hSw; go_simp; (try with_reducible rfl)
  try simp only [Act.put, List.setIfInBounds_toArray, List.set_cons_zero, List.set_cons_succ]
  refine wpAnyH_take (i := 15) (oi := ⟨some 55, _, _, _, _, _⟩) (v := ?_) rfl (by kernel_rfl) (by kernel_rfl) (by kernel_rfl) (fun _ _ _ h => h) (Or.inl ⟨by rfl, ?_⟩) (by assumption) ?_
  rotate_left
  · intro wq hSw; go_simp; (try with_reducible rfl)
  try simp only [Act.put, List.setIfInBounds_toArray, List.set_cons_zero, List.set_cons_succ]
  refine wpAnyH_take (i := 16) (oi := ⟨some 56, _, _, _, _, _⟩) (v := ?_) rfl (by kernel_rfl) (by kernel_rfl) (by kernel_rfl) (fun _ _ _ h => h) (Or.inl ⟨by rfl, ?_⟩) (by assumption) ?_
  rotate_left
  · intro wq hSw; go_simp; (try with_reducible rfl)
  try simp only [Act.put, List.setIfInBounds_toArray, List.set_cons_zero, List.set_cons_succ]
  refine wpAnyH_take (i := 17) (oi := ⟨some 57, _, _, _, _, _⟩) (v := ?_) rfl (by kernel_rfl) (by kernel_rfl) (by kernel_rfl) (fun _ _ _ h => h) (Or.inl ⟨by rfl, ?_⟩) (by assumption) ?_
  rotate_left
  · intro wq hSw; go_simp; (try with_reducible rfl)
  try simp only [Act.put, List.setIfInBounds_toArray, List.set_cons_zero, List.set_cons_succ]
  refine wpAnyH_take (i := 18) (oi := ⟨some 58, _, _, _, _, _⟩) (v := ?_) rfl (by kernel_rfl) (by kernel_rfl) (by kernel_rfl) (fun _ _ _ h => h) (Or.inl ⟨by rfl, ?_⟩) (by assumption) ?_
  rotate_left
  · intro wq hSw; go_simp; (try with_reducible rfl)
  try simp only [Act.put, List.setIfInBounds_toArray, List.set_cons_zero, List.set_cons_succ]
  refine wpAnyH_take (i := 19) (oi := ⟨some 59, _, _, _, _, _⟩) (v := ?_) rfl (by kernel_rfl) (by kernel_rfl) (by kernel_rfl) (fun _ _ _ h => h) (Or.inl ⟨by rfl, ?_⟩) (by assumption) ?_
  rotate_left
  · intro wq hSw; obtain ⟨⟨qz0, qc0, qf0⟩, ⟨qz1, qc1, qf1⟩, ⟨qz2, qc2, qf2⟩, ⟨qz3, qc3, qf3⟩, ⟨qz4, qc4, qf4⟩, ⟨qz5, qc5, qf5⟩, _⟩ := hSw.2; go_simp; (try with_reducible rfl)
  try simp only [Act.put, List.setIfInBounds_toArray, List.set_cons_zero, List.set_cons_succ]
  refine wpAnyH_ready (rs := [20]) (by kernel_rfl) (by simp) ?_
  refine AllReadyH.cons (o := ⟨some 60, _, _, _, _, _⟩) rfl (fun K hK => ?_) AllReadyH.nil
  go_simp
  (first | (with_reducible refine Calls.mono (L1.out _) ?_) | (with_reducible refine Calls.mono (L2.out _) ?_) | (with_reducible refine Calls.mono (L3.out _) ?_)); rintro e w14 ⟨rfl, hb⟩
  refine hK.out _ _ (hHeld0.next hb) (fun hHeld1 => ?_)
  clear hK K
  try clear hb
  try simp only [Act.put, List.setIfInBounds_toArray, List.set_cons_zero, List.set_cons_succ]
  refine wpAnyH_take (i := 21) (oi := ⟨some 61, _, _, _, _, _⟩) (v := ?_) rfl (by kernel_rfl) (by kernel_rfl) (by kernel_rfl) (fun _ _ _ h => h) (Or.inl ⟨by rfl, ?_⟩) (by assumption) ?_
  rotate_left
  · intro wq hSw; go_simp; (try with_reducible rfl)
  try simp only [Act.put, List.setIfInBounds_toArray, List.set_cons_zero, List.set_cons_succ]
  refine wpAnyH_take (i := 22) (oi := ⟨some 62, _, _, _, _, _⟩) (v := ?_) rfl (by kernel_rfl) (by kernel_rfl) (by kernel_rfl) (fun _ _ _ h => h) (Or.inl ⟨by rfl, ?_⟩) (by assumption) ?_
  rotate_left
  · intro wq hSw; go_simp; (try with_reducible rfl)
  try simp only [Act.put, List.setIfInBounds_toArray, List.set_cons_zero, List.set_cons_succ]
  refine wpAnyH_take (i := 23) (oi := ⟨some 63, _, _, _, _, _⟩) (v := ?_) rfl (by kernel_rfl) (by kernel_rfl) (by kernel_rfl) (fun _ _ _ h => h) (Or.inl ⟨by rfl, ?_⟩) (by assumption) ?_
  rotate_left
  · intro wq hSw; go_simp; (try with_reducible rfl)
  try simp only [Act.put, List.setIfInBounds_toArray, List.set_cons_zero, List.set_cons_succ]
  refine wpAnyH_take (i := 24) (oi := ⟨some 64, _, _, _, _, _⟩) (v := ?_) rfl (by kernel_rfl) (by kernel_rfl) (by kernel_rfl) (fun _ _ _ h => h) (Or.inl ⟨by rfl, ?_⟩) (by assumption) ?_
  rotate_left
  · intro wq hSw; obtain ⟨⟨qz0, qc0, qf0⟩, ⟨qz1, qc1, qf1⟩, ⟨qz2, qc2, qf2⟩, ⟨qz3, qc3, qf3⟩, ⟨qz4, qc4, qf4⟩, ⟨qz5, qc5, qf5⟩, _⟩ := hSw.2; go_simp; (try with_reducible rfl)
  try simp only [Act.put, List.setIfInBounds_toArray, List.set_cons_zero, List.set_cons_succ]
  refine wpAnyH_ready (rs := [25]) (by kernel_rfl) (by simp) ?_
  refine AllReadyH.cons (o := ⟨some 65, _, _, _, _, _⟩) rfl (fun K hK => ?_) AllReadyH.nil
  go_simp
  (first | (with_reducible refine Calls.mono (L1.out _) ?_) | (with_reducible refine Calls.mono (L2.out _) ?_) | (with_reducible refine Calls.mono (L3.out _) ?_)); rintro e w14 ⟨rfl, hb⟩
  refine hK.out _ _ (hHeld1.next hb) (fun hHeld2 => ?_)
  clear hK K
  try clear hb
  try simp only [Act.put, List.setIfInBounds_toArray, List.set_cons_zero, List.set_cons_succ]
  refine wpAnyH_take (i := 26) (oi := ⟨some 66, _, _, _, _, _⟩) (v := ?_) rfl (by kernel_rfl) (by kernel_rfl) (by kernel_rfl) (fun _ _ _ h => h) (Or.inl ⟨by rfl, ?_⟩) (by assumption) ?_
  rotate_left
  · intro wq hSw; go_simp; (try with_reducible rfl)
  try simp only [Act.put, List.setIfInBounds_toArray, List.set_cons_zero, List.set_cons_succ]
  refine wpAnyH_take (i := 27) (oi := ⟨some 67, _, _, _, _, _⟩) (v := ?_) rfl (by kernel_rfl) (by kernel_rfl) (by kernel_rfl) (fun _ _ _ h => h) (Or.inl ⟨by rfl, ?_⟩) (by assumption) ?_
  rotate_left
  · intro wq hSw; go_simp; (try with_reducible rfl)
  try simp only [Act.put, List.setIfInBounds_toArray, List.set_cons_zero, List.set_cons_succ]
  refine wpAnyH_take (i := 28) (oi := ⟨some 68, _, _, _, _, _⟩) (v := ?_) rfl (by kernel_rfl) (by kernel_rfl) (by kernel_rfl) (fun _ _ _ h => h) (Or.inl ⟨by rfl, ?_⟩) (by assumption) ?_
  rotate_left
  · intro wq hSw; go_simp; (try with_reducible rfl)
  try simp only [Act.put, List.setIfInBounds_toArray, List.set_cons_zero, List.set_cons_succ]
  refine wpAnyH_take (i := 29) (oi := ⟨some 69, _, _, _, _, _⟩) (v := ?_) rfl (by kernel_rfl) (by kernel_rfl) (by kernel_rfl) (fun _ _ _ h => h) (Or.inl ⟨by rfl, ?_⟩) (by assumption) ?_
  rotate_left
  · intro wq hSw; go_simp; (try with_reducible rfl)
  try simp only [Act.put, List.setIfInBounds_toArray, List.set_cons_zero, List.set_cons_succ]
  refine wpAnyH_take (i := 30) (oi := ⟨some 70, _, _, _, _, _⟩) (v := ?_) rfl (by kernel_rfl) (by kernel_rfl) (by kernel_rfl) (fun _ _ _ h => h) (Or.inl ⟨by rfl, ?_⟩) (by assumption) ?_
  rotate_left
  · intro wq hSw; go_simp; (try with_reducible rfl)
  try simp only [Act.put, List.setIfInBounds_toArray, List.set_cons_zero, List.set_cons_succ]
  refine wpAnyH_take (i := 31) (oi := ⟨some 71, _, _, _, _, _⟩) (v := ?_) rfl (by kernel_rfl) (by kernel_rfl) (by kernel_rfl) (fun _ _ _ h => h) (Or.inl ⟨by rfl, ?_⟩) (by assumption) ?_
  rotate_left
  · intro wq hSw; go_simp; (try with_reducible rfl)
  try simp only [Act.put, List.setIfInBounds_toArray, List.set_cons_zero, List.set_cons_succ]
  refine wpAnyH_take (i := 32) (oi := ⟨some 72, _, _, _, _, _⟩) (v := ?_) rfl (by kernel_rfl) (by kernel_rfl) (by kernel_rfl) (fun _ _ _ h => h) (Or.inl ⟨by rfl, ?_⟩) (by assumption) ?_
  rotate_left
  · intro wq hSw; go_simp; (try with_reducible rfl)
  try simp only [Act.put, List.setIfInBounds_toArray, List.set_cons_zero, List.set_cons_succ]
  refine wpAnyH_take (i := 33) (oi := ⟨some 73, _, _, _, _, _⟩) (v := ?_) rfl (by kernel_rfl) (by kernel_rfl) (by kernel_rfl) (fun _ _ _ h => h) (Or.inl ⟨by rfl, ?_⟩) (by assumption) ?_
  rotate_left
  · intro wq hSw; obtain ⟨⟨qz0, qc0, qf0⟩, ⟨qz1, qc1, qf1⟩, ⟨qz2, qc2, qf2⟩, ⟨qz3, qc3, qf3⟩, ⟨qz4, qc4, qf4⟩, ⟨qz5, qc5, qf5⟩, _⟩ := hSw.2; go_simp; (try with_reducible rfl)
  try simp only [Act.put, List.setIfInBounds_toArray, List.set_cons_zero, List.set_cons_succ]
  refine wpAnyH_ready (rs := [34]) (by kernel_rfl) (by simp) ?_
  refine AllReadyH.cons (o := ⟨some 74, _, _, _, _, _⟩) rfl (fun K hK => ?_) AllReadyH.nil
  go_simp
  (first | (with_reducible refine Calls.mono (L1.out _) ?_) | (with_reducible refine Calls.mono (L2.out _) ?_) | (with_reducible refine Calls.mono (L3.out _) ?_)); rintro e w14 ⟨rfl, hb⟩
  refine hK.out _ _ (hHeld2.next hb) (fun hHeld3 => ?_)
  clear hK K
  try clear hb
  try simp only [Act.put, List.setIfInBounds_toArray, List.set_cons_zero, List.set_cons_succ]
  refine wpAnyH_take (i := 35) (oi := ⟨some 75, _, _, _, _, _⟩) (v := ?_) rfl (by kernel_rfl) (by kernel_rfl) (by kernel_rfl) (fun _ _ _ h => h) (Or.inl ⟨by rfl, ?_⟩) (by assumption) ?_
  rotate_left
  · intro wq hSw; go_simp; (try with_reducible rfl)
  try simp only [Act.put, List.setIfInBounds_toArray, List.set_cons_zero, List.set_cons_succ]
  refine wpAnyH_take (i := 36) (oi := ⟨some 76, _, _, _, _, _⟩) (v := ?_) rfl (by kernel_rfl) (by kernel_rfl) (by kernel_rfl) (fun _ _ _ h => h) (Or.inl ⟨by rfl, ?_⟩) (by assumption) ?_
  rotate_left
  · intro wq hSw; go_simp; (try with_reducible rfl)
  try simp only [Act.put, List.setIfInBounds_toArray, List.set_cons_zero, List.set_cons_succ]
  refine wpAnyH_take (i := 37) (oi := ⟨some 0, _, _, _, _, _⟩) (v := ?_) rfl (by kernel_rfl) (by kernel_rfl) (by kernel_rfl) (fun _ _ _ h => h) (Or.inl ⟨by rfl, ?_⟩) (by assumption) ?_
  rotate_left
  · intro wq hSw; go_simp; (try with_reducible rfl)
  try simp only [Act.put, List.setIfInBounds_toArray, List.set_cons_zero]
  refine wpAnyH_done (by kernel_rfl) ?_ _
  have hHeld := hHeld3
  obtain ⟨⟨kz0, kc0, kf0⟩, ⟨kz1, kc1, kf1⟩, ⟨kz2, kc2, kf2⟩, ⟨kz3, kc3, kf3⟩, ⟨kz4, kc4, kf4⟩, ⟨kz5, kc5, kf5⟩, _⟩ := hHeld.2
  all_goals
    go_wp2_with fail
    go_ret
    exact ⟨rfl, hHeld.1⟩
end Go.Proofs.Ytnacdofidmgfmaa
