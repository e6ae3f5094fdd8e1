/-
  Layer 6: the whole numbers are cut off, and what the steps come to. Conditions: those written at each fact.
-/
import Derived.Test.YtnacdofidmgfmaaFsD
import Derived.Test.YtnacdofidmgfmaaWideI
namespace Go.Proofs.Ytnacdofidmgfmaa
open Go.RowKit

theorem Cells.mem : ∀ {L : List (Nat × Nat × Value)} {W : World}, Cells L W → ∀ q ∈ L, q.1 < W.heap.size ∧ W.cell? ⟨q.1, q.2.1, none⟩ = some q.2.2 ∧ W.frozen? ⟨q.1, q.2.1, none⟩ = false
  | [], _, _, q, hq => by cases hq
  | (_, _, _) :: _, _, h, q, hq => by
    rcases List.mem_cons.1 hq with rfl | hq
    · exact h.1
    · exact Cells.mem h.2 q hq
theorem Cells.of_mem : ∀ {L : List (Nat × Nat × Value)} {W : World}, (∀ q ∈ L, q.1 < W.heap.size ∧ W.cell? ⟨q.1, q.2.1, none⟩ = some q.2.2 ∧ W.frozen? ⟨q.1, q.2.1, none⟩ = false) → Cells L W
  | [], _, _ => trivial
  | (_, _, _) :: _, _, h => ⟨h _ (List.mem_cons_self ..), Cells.of_mem fun q hq => h q (List.mem_cons_of_mem _ hq)⟩
theorem Keeps.sub {w W : World} {L L' : List (Nat × Nat × Value)} (h : Keeps w L W) (hs : ∀ q ∈ L', q ∈ L) : Keeps w L' W := ⟨h.1, Cells.of_mem fun q hq => h.2.mem q (hs q hq)⟩
theorem div_told (z m : Int) (hz : Fits z) (hm0 : 1 ≤ m) (hm1 : m ≤ 281474976710656) (w : World) :
    Calls Try.prog 98 #[wideV (rhi z) (rlo z), .int .i64 m] w (Ret w (.tuple #[wideV (rhi (z / m)) (rlo (z / m)), .int .i64 (z % m), .int .i64 0])) := by
  have h := div_any (rhi z) (rlo z) m (rhi_i64 _) (rlo_u64 _) (by unfold I64; omega) w
  rw [val_r hz] at h
  have n1 : ¬ m < 1 := by omega
  simp only [divV, qhi, qlo, qrest, qcode, if_neg n1] at h
  exact h
theorem term_fits {z : Int} (h : termB z = true) : Fits z := by
  have := (termB_iff z).1 h
  unfold Fits
  omega
theorem floor_le {m : Int} (hm : 1 ≤ m) (n : Nat) (a b : Int) (ha : a < m) (hb : b < m) : floorS n a b m ≤ prN n + n := by
  induction n with
  | zero => simp [floorS, prN]
  | succ n ih =>
    simp only [floorS, prN]
    have : (a * n + b) / m < (n : Int) + 1 := by
      refine Int.ediv_lt_of_lt_mul (by omega) ?_
      have w1 : a * (n : Int) ≤ m * n := Int.mul_le_mul_of_nonneg_right (by omega) (by omega)
      rw [Int.add_mul, Int.one_mul, Int.mul_comm (n : Int) m]
      omega
    omega
theorem abs_div {z m Z : Int} (hm : 1 ≤ m) (hZ : 0 ≤ Z) (h : -Z ≤ z ∧ z ≤ Z) : -Z ≤ z / m ∧ z / m ≤ Z := by
  have e := Int.mul_ediv_add_emod z m
  have r0 := Int.emod_nonneg z (show m ≠ 0 by omega)
  constructor
  · refine Int.le_ediv_of_mul_le (by omega) ?_
    have : Z * 1 ≤ Z * m := Int.mul_le_mul_of_nonneg_left hm hZ
    rw [Int.neg_mul]
    omega
  · refine Int.ediv_le_of_le_mul (by omega) ?_
    have : Z * 1 ≤ Z * m := Int.mul_le_mul_of_nonneg_left hm hZ
    omega
theorem mul_in {x y X Y : Int} (hx : -X ≤ x ∧ x ≤ X) (hy : 0 ≤ y ∧ y ≤ Y) (hX : 0 ≤ X) : -(X * Y) ≤ x * y ∧ x * y ≤ X * Y := by
  have h1 : x * y ≤ X * y := Int.mul_le_mul_of_nonneg_right hx.2 hy.1
  have h2 : -X * y ≤ x * y := Int.mul_le_mul_of_nonneg_right hx.1 hy.1
  have h3 : X * y ≤ X * Y := Int.mul_le_mul_of_nonneg_left hy.2 hX
  rw [Int.neg_mul] at h2
  omega
/-- What is cut off, and what the steps come to, has room. -/
structure Room (n : Nat) (a b m : Int) : Prop where
  an : Fits (a / m * prN n)
  bn : Fits (b / m * n)
  both : Fits (a / m * prN n + b / m * n)
  all : Fits (floorS n a b m)
  quot : Fits (a / m) ∧ Fits (b / m)
theorem room {n : Nat} {a b m : Int} (hn : n ≤ 256) (ha : termB a = true) (hb : termB b = true) (hm : 1 ≤ m) : Room n a b m := by
  have ha := (termB_iff a).1 ha
  have hb := (termB_iff b).1 hb
  have qa := abs_div hm (by omega) ha
  have qb := abs_div hm (by omega) hb
  have p0 := prN_nonneg n
  have p1 := prN_le hn
  have ma := mul_in qa ⟨p0, p1⟩ (by omega)
  have mb := mul_in qb ⟨(show (0 : Int) ≤ n by omega), (show (n : Int) ≤ 256 by omega)⟩ (by omega)
  have fl := floor_mod hm n a b
  have f0 := floor_nonneg hm n (a % m) (b % m) (Int.emod_nonneg a (by omega)) (Int.emod_nonneg b (by omega))
  have f1 := floor_le hm n (a % m) (b % m) (Int.emod_lt_of_pos a (by omega)) (Int.emod_lt_of_pos b (by omega))
  refine ⟨?_, ?_, ?_, ?_, ?_, ?_⟩ <;> unfold Fits <;> omega
set_option maxRecDepth 100000 in
set_option maxHeartbeats 4000000 in
theorem cut_any (n : Nat) (a b m : Int) (hn : n ≤ 256) (ha : termB a = true) (hb : termB b = true) (hm0 : 1 ≤ m) (hm1 : m ≤ 281474976710656) (w : World) :
    Calls Try.prog 62 #[.int .i64 n, wideV (rhi a) (rlo a), wideV (rhi b) (rlo b), .int .i64 m] w
      (Ret w (.agg #[.int .i64 (rhi (a / m * prN n + b / m * n)), .int .u64 (rlo (a / m * prN n + b / m * n)), .int .i64 n, .int .i64 (a % m), .int .i64 (b % m), .int .i64 m])) := by
  obtain ⟨r1, r2, r3, _, r5, r6⟩ := room hn ha hb hm0
  have z0 : Fits (0 : Int) := by unfold Fits; omega
  have zh : rhi 0 = 0 := by decide +kernel
  have zl : rlo 0 = 0 := by decide +kernel
  have p0 := prN_nonneg n
  have p1 := prN_le hn
  have DA := Lib.hid (fun W => div_told a m (term_fits ha) hm0 hm1 W)
  have DB := Lib.hid (fun W => div_told b m (term_fits hb) hm0 hm1 W)
  have PR := Lib.hid (fun W => pairs_any n hn W)
  have AD := fun s M W k hM => sadd_any s 0 (a / m) (prN n) M z0 r5 (by unfold I64; omega) r1 (by rw [Int.zero_add]; exact r1) W k hM
  have AE := fun s M W k hM => sadd_any s (a / m * prN n) (b / m) n M r1 r6 (by unfold I64; omega) r2 r3 W k hM
  rw [zh, zl, Int.zero_add] at AD
  replace AD := Lib.hid AD
  replace AE := Lib.hid AE
  clear r1 r2 r3 r5 r6 z0 zh zl p0 p1 ha hb hm0 hm1 hn
  generalize a / m * prN n + b / m * n = t at *
  generalize a / m * prN n = p at *
  generalize a / m = x at *
  generalize b / m = y at *
  generalize a % m = ra at *
  generalize b % m = rb at *
  generalize prN n = pn at *
  generalize rhi a = a0 at *
  generalize rlo a = a1 at *
  generalize rhi b = b0 at *
  generalize rlo b = b1 at *
  generalize rhi t = t0 at *
  generalize rlo t = t1 at *
  generalize rhi p = u0 at *
  generalize rlo p = u1 at *
  generalize rhi x = x0 at *
  generalize rlo x = x1 at *
  generalize rhi y = y0 at *
  generalize rlo y = y1 at *
  go_enter Try.func62, Try.ntmps62
  go_wp2_with fail
  refine (DA.out _).mono ?_
  rintro e w1 ⟨rfl, hb⟩
  have hHeld : Keeps w [(w.heap.size + 1, 0, .int .i64 b0), (w.heap.size + 1, 1, .int .u64 b1), (w.heap.size + 1 + 1, 0, .int .i64 0), (w.heap.size + 1 + 1, 1, .int .u64 0), (w.heap.size + 1 + 1, 2, .int .i64 0), (w.heap.size + 1 + 1, 3, .int .i64 0), (w.heap.size + 1 + 1, 4, .int .i64 0), (w.heap.size + 1 + 1, 5, .int .i64 0), (w.heap.size + 1 + 1 + 1, 0, .int .i64 0), (w.heap.size + 1 + 1 + 1, 1, .int .u64 0), (w.heap.size + 1 + 1 + 1, 2, .int .i64 n), (w.heap.size + 1 + 1 + 1, 3, .int .i64 0), (w.heap.size + 1 + 1 + 1, 4, .int .i64 0), (w.heap.size + 1 + 1 + 1, 5, .int .i64 m)] _ := Keeps.next (by refine ⟨by go_grown, ?_⟩; simp [Cells, go_sem]) hb
  clear hb
  obtain ⟨⟨kz0, kc0, kf0⟩, ⟨kz1, kc1, kf1⟩, ⟨kz2, kc2, kf2⟩, ⟨kz3, kc3, kf3⟩, ⟨kz4, kc4, kf4⟩, ⟨kz5, kc5, kf5⟩, ⟨kz6, kc6, kf6⟩, ⟨kz7, kc7, kf7⟩, ⟨kz8, kc8, kf8⟩, ⟨kz9, kc9, kf9⟩, ⟨kz10, kc10, kf10⟩, ⟨kz11, kc11, kf11⟩, ⟨kz12, kc12, kf12⟩, ⟨kz13, kc13, kf13⟩, _⟩ := hHeld.2
  obtain ⟨s, hs⟩ : ∃ s, s = w.heap.size + 1 + 1 + 1 := ⟨_, rfl⟩
  obtain ⟨r, hr⟩ : ∃ r, r = w.heap.size + 1 + 1 := ⟨_, rfl⟩
  have n1 : w1.heap.size ≠ s := by omega
  have n3 : r ≠ s := by omega
  have sl := Lib.hid (show w.heap.size ≤ s by omega)
  have rl := Lib.hid (show w.heap.size ≤ r by omega)
  rw [← hs, ← hr] at hHeld
  rw [← hs, ← hr]
  rw [← hs] at kz13
  rw [← hr] at kz2
  clear hs hr
  go_wp2_with fail
  refine (DB.out _).mono ?_
  rintro e w2 ⟨rfl, hb⟩
  have hE : Keeps w [(w1.heap.size, 0, .int .i64 x0), (w1.heap.size, 1, .int .u64 x1)] w2 := (newK2 (hHeld.alloc _)).next hb
  replace hHeld := (hHeld.alloc _).next hb
  have n2 : w2.heap.size ≠ s := by have := hHeld.2.2.2.2.2.2.2.2.2.2.1.1; omega
  clear hb kz0 kc0 kf0 kz1 kc1 kf1 kz2 kc2 kf2 kz3 kc3 kf3 kz4 kc4 kf4 kz5 kc5 kf5 kz6 kc6 kf6 kz7 kc7 kf7 kz8 kc8 kf8 kz9 kc9 kf9 kz10 kc10 kf10 kz11 kc11 kf11 kz12 kc12 kf12 kz13 kc13 kf13
  go_wp2_with fail
  have hA : Keeps w ([(w1.heap.size, 0, .int .i64 x0), (w1.heap.size, 1, .int .u64 x1)] ++ ([(w2.heap.size, 0, .int .i64 y0), (w2.heap.size, 1, .int .u64 y1)] ++ _)) _ := (hE.alloc _).app ((newK2 (hHeld.alloc (.cells #[.int .i64 y0, .int .u64 y1] 24))).app (hHeld.alloc _))
  clear hE hHeld
  refine region_keepsB (w0 := w) (L := [(w1.heap.size, 0, .int .i64 x0), (w1.heap.size, 1, .int .u64 x1), (w2.heap.size, 0, .int .i64 y0), (w2.heap.size, 1, .int .u64 y1), (r, 0, .int .i64 0), (r, 1, .int .u64 0), (r, 2, .int .i64 0), (r, 3, .int .i64 0), (r, 4, .int .i64 0), (r, 5, .int .i64 0), (s, 2, .int .i64 n), (s, 3, .int .i64 0), (s, 4, .int .i64 0), (s, 5, .int .i64 m)]) (M := [(s, 0, .int .i64 0), (s, 1, .int .u64 0)]) (by kernel_rfl) (hA.sub (by simp)) (hA.sub (by simp)) (fun hHeld0 hT0 => ?_)
  refine wpAnyH_take (i := 0) (oi := ⟨some 33, _, _, _, _, _⟩) (v := ?_) rfl (by kernel_rfl) (by kernel_rfl) (by kernel_rfl) (fun _ _ _ h => h) (Or.inl ⟨by rfl, ?_⟩) (by assumption) ?_
  rotate_left
  · intro wq hSw; go_simp; (try with_reducible rfl)
  try simp only [Act.put, List.setIfInBounds_toArray, List.set_cons_zero, List.set_cons_succ]
  refine wpAnyH_take (i := 1) (oi := ⟨some 34, _, _, _, _, _⟩) (v := ?_) rfl (by kernel_rfl) (by kernel_rfl) (by kernel_rfl) (fun _ _ _ h => h) (Or.inl ⟨by rfl, ?_⟩) (by assumption) ?_
  rotate_left
  · intro wq hSw; obtain ⟨⟨qz0, qc0, qf0⟩, ⟨qz1, qc1, qf1⟩, ⟨qz2, qc2, qf2⟩, ⟨qz3, qc3, qf3⟩, ⟨qz4, qc4, qf4⟩, ⟨qz5, qc5, qf5⟩, ⟨qz6, qc6, qf6⟩, ⟨qz7, qc7, qf7⟩, ⟨qz8, qc8, qf8⟩, ⟨qz9, qc9, qf9⟩, ⟨qz10, qc10, qf10⟩, ⟨qz11, qc11, qf11⟩, ⟨qz12, qc12, qf12⟩, ⟨qz13, qc13, qf13⟩, _⟩ := hSw.2; go_simp; (try with_reducible rfl)
  try simp only [Act.put, List.setIfInBounds_toArray, List.set_cons_zero, List.set_cons_succ]
  refine wpAnyH_take (i := 2) (oi := ⟨some 35, _, _, _, _, _⟩) (v := ?_) rfl (by kernel_rfl) (by kernel_rfl) (by kernel_rfl) (fun _ _ _ h => h) (Or.inl ⟨by rfl, ?_⟩) (by assumption) ?_
  rotate_left
  · intro wq hSw; go_simp; (try with_reducible rfl)
  try simp only [Act.put, List.setIfInBounds_toArray, List.set_cons_zero, List.set_cons_succ]
  refine wpAnyH_take (i := 3) (oi := ⟨some 36, _, _, _, _, _⟩) (v := ?_) rfl (by kernel_rfl) (by kernel_rfl) (by kernel_rfl) (fun _ _ _ h => h) (Or.inl ⟨by rfl, ?_⟩) (by assumption) ?_
  rotate_left
  · intro wq hSw; obtain ⟨⟨qz0, qc0, qf0⟩, ⟨qz1, qc1, qf1⟩, ⟨qz2, qc2, qf2⟩, ⟨qz3, qc3, qf3⟩, ⟨qz4, qc4, qf4⟩, ⟨qz5, qc5, qf5⟩, ⟨qz6, qc6, qf6⟩, ⟨qz7, qc7, qf7⟩, ⟨qz8, qc8, qf8⟩, ⟨qz9, qc9, qf9⟩, ⟨qz10, qc10, qf10⟩, ⟨qz11, qc11, qf11⟩, ⟨qz12, qc12, qf12⟩, ⟨qz13, qc13, qf13⟩, _⟩ := hSw.2; go_simp; (try with_reducible rfl)
  try simp only [Act.put, List.setIfInBounds_toArray, List.set_cons_zero, List.set_cons_succ]
  refine wpAnyH_ready (rs := [4]) (by kernel_rfl) (by simp) ?_
  refine AllReadyH.cons (o := ⟨some 37, _, _, _, _, _⟩) rfl (fun K hK => ?_) AllReadyH.nil
  go_simp
  (with_reducible refine Calls.mono (PR.out _) ?_); rintro e w5 ⟨rfl, hb⟩
  refine hK.out _ _ (hHeld0.next hb) (fun hHeld1 => ?_)
  replace hT0 := hT0.next hb
  clear hK K
  try clear hb
  try simp only [Act.put, List.setIfInBounds_toArray, List.set_cons_zero, List.set_cons_succ]
  refine wpAnyH_ready (rs := [5]) (by kernel_rfl) (by simp) ?_
  refine AllReadyH.cons (o := ⟨some 38, _, _, _, _, _⟩) rfl (fun K hK => ?_) AllReadyH.nil
  go_simp
  refine Calls.mono (AD.out s [(s, 2, .int .i64 n), (s, 3, .int .i64 0), (s, 4, .int .i64 0), (s, 5, .int .i64 m)] _ ⟨hT0.2.1, hT0.2.2.1, (hHeld1.sub (by simp)).2⟩ (by simp)) ?_; rintro e w6 ⟨rfl, hX⟩
  refine hK.out _ _ ((((hHeld1.sub (L' := [(w1.heap.size, 0, .int .i64 x0), (w1.heap.size, 1, .int .u64 x1), (w2.heap.size, 0, .int .i64 y0), (w2.heap.size, 1, .int .u64 y1), (r, 0, .int .i64 0), (r, 1, .int .u64 0), (r, 2, .int .i64 0), (r, 3, .int .i64 0), (r, 4, .int .i64 0), (r, 5, .int .i64 0)]) (by simp)).nextX hX sl.out (by simp [n1, n2, n3])).sub (by simp))) (fun hHeld2 => ?_)
  clear hK K
  try clear hb
  try simp only [Act.put, List.setIfInBounds_toArray, List.set_cons_zero, List.set_cons_succ]
  refine wpAnyH_done (by kernel_rfl) ?_ _
  have hHeld := hHeld2
  obtain ⟨⟨kz0, kc0, kf0⟩, ⟨kz1, kc1, kf1⟩, ⟨kz2, kc2, kf2⟩, ⟨kz3, kc3, kf3⟩, ⟨kz4, kc4, kf4⟩, ⟨kz5, kc5, kf5⟩, ⟨kz6, kc6, kf6⟩, ⟨kz7, kc7, kf7⟩, ⟨kz8, kc8, kf8⟩, ⟨kz9, kc9, kf9⟩, ⟨kz10, kc10, kf10⟩, ⟨kz11, kc11, kf11⟩, ⟨kz12, kc12, kf12⟩, ⟨kz13, kc13, kf13⟩, _⟩ := hHeld.2
  have hF := hHeld.app (⟨hHeld.1, hX.2⟩ : Keeps w _ w6)
  replace hHeld : Keeps w [(w2.heap.size, 0, .int .i64 y0), (w2.heap.size, 1, .int .u64 y1), (r, 0, .int .i64 0), (r, 1, .int .u64 0), (r, 2, .int .i64 0), (r, 3, .int .i64 0), (r, 4, .int .i64 0), (r, 5, .int .i64 0), (s, 0, .int .i64 u0), (s, 1, .int .u64 u1), (s, 2, .int .i64 n), (s, 3, .int .i64 0), (s, 4, .int .i64 0), (s, 5, .int .i64 m)] w6 := hF.sub (by simp)
  clear hF hX hA
  (try clear hHeld0); (try clear hHeld1); (try clear hHeld2); (try clear hHeld3); (try clear hHeld4); (try clear hHeld5); (try clear hHeld6); (try clear hHeld7); (try clear hHeld8); (try clear hHeld9); (try clear hHeld10); (try clear hHeld11); (try clear hHeld12); (try clear hHeld13); (try clear hT0); (try clear kz0 kc0 kf0); (try clear kz1 kc1 kf1); (try clear kz2 kc2 kf2); (try clear kz3 kc3 kf3); (try clear kz4 kc4 kf4); (try clear kz5 kc5 kf5); (try clear kz6 kc6 kf6); (try clear kz7 kc7 kf7); (try clear kz8 kc8 kf8); (try clear kz9 kc9 kf9); (try clear kz10 kc10 kf10); (try clear kz11 kc11 kf11); (try clear kz12 kc12 kf12); (try clear kz13 kc13 kf13); (try clear t0z0 t0c0 t0f0); (try clear t0z1 t0c1 t0f1)
  obtain ⟨⟨kz0, kc0, kf0⟩, ⟨kz1, kc1, kf1⟩, ⟨kz2, kc2, kf2⟩, ⟨kz3, kc3, kf3⟩, ⟨kz4, kc4, kf4⟩, ⟨kz5, kc5, kf5⟩, ⟨kz6, kc6, kf6⟩, ⟨kz7, kc7, kf7⟩, ⟨kz8, kc8, kf8⟩, ⟨kz9, kc9, kf9⟩, ⟨kz10, kc10, kf10⟩, ⟨kz11, kc11, kf11⟩, ⟨kz12, kc12, kf12⟩, ⟨kz13, kc13, kf13⟩, _⟩ := hHeld.2
  go_wp2_with fail
  refine Calls.mono (AE.out s [(s, 2, .int .i64 n), (s, 3, .int .i64 0), (s, 4, .int .i64 0), (s, 5, .int .i64 m)] _ (hHeld.sub (by simp)).2 (by simp)) ?_
  rintro e w7 ⟨rfl, hX⟩
  have hG := (hHeld.sub (L' := [(r, 0, .int .i64 0), (r, 1, .int .u64 0), (r, 2, .int .i64 0), (r, 3, .int .i64 0), (r, 4, .int .i64 0), (r, 5, .int .i64 0)]) (by simp)).nextX hX sl.out (by simp [n3])
  clear hX hHeld
  (try clear hHeld0); (try clear hHeld1); (try clear hHeld2); (try clear hHeld3); (try clear hHeld4); (try clear hHeld5); (try clear hHeld6); (try clear hHeld7); (try clear hHeld8); (try clear hHeld9); (try clear hHeld10); (try clear hHeld11); (try clear hHeld12); (try clear hHeld13); (try clear hT0); (try clear kz0 kc0 kf0); (try clear kz1 kc1 kf1); (try clear kz2 kc2 kf2); (try clear kz3 kc3 kf3); (try clear kz4 kc4 kf4); (try clear kz5 kc5 kf5); (try clear kz6 kc6 kf6); (try clear kz7 kc7 kf7); (try clear kz8 kc8 kf8); (try clear kz9 kc9 kf9); (try clear kz10 kc10 kf10); (try clear kz11 kc11 kf11); (try clear kz12 kc12 kf12); (try clear kz13 kc13 kf13); (try clear t0z0 t0c0 t0f0); (try clear t0z1 t0c1 t0f1)
  obtain ⟨⟨kz0, kc0, kf0⟩, ⟨kz1, kc1, kf1⟩, ⟨kz2, kc2, kf2⟩, ⟨kz3, kc3, kf3⟩, ⟨kz4, kc4, kf4⟩, ⟨kz5, kc5, kf5⟩, ⟨kz6, kc6, kf6⟩, ⟨kz7, kc7, kf7⟩, ⟨kz8, kc8, kf8⟩, ⟨kz9, kc9, kf9⟩, ⟨kz10, kc10, kf10⟩, ⟨kz11, kc11, kf11⟩, _⟩ := hG.2
  go_wp2_with fail
  refine bodyPost_ret (v := .agg #[.int .i64 t0, .int .u64 t1, .int .i64 n, .int .i64 ra, .int .i64 rb, .int .i64 m]) (by simp [results, Try.results62, go_sem, *]) rfl ?_
  have h1 := hG.1
  have h2 := sl.out
  have h3 := rl.out
  refine ⟨rfl, ?_⟩
  go_grown <;> first | exact h2 | exact h3
end Go.Proofs.Ytnacdofidmgfmaa
