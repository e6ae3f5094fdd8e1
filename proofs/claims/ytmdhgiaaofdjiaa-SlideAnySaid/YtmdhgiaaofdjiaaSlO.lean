/-
  Layer 10: the law's rays: does one go through bands? Conditions: those written at each fact.
-/
import Derived.Test.YtmdhgiaaofdjiaaSlM
namespace Go.Proofs.Ytmdhgiaaofdjiaa.P10
open Go.RowKit Go.Shelf Go.Proofs.Ytmdhgiaaofdjiaa.P8

/-- Does a ray go through a band that is so long behind the first one? -/
def rayB (a r n d dt lo hi : Int) : Bool := decide (lo * d ≤ a * d + n * dt + r) && decide (a * d + n * dt + r ≤ hi * d)
def rayG (a r n d : Int) (l : List Bd) : Bool := l.all fun b => rayB a r n d (b.t - headT l) b.lo b.hi
theorem ray_thru {a r n d : Int} {l : List Bd} (h : rayG a r n d l = true) : ThruR (headT l) (a * d + r) n d l := by
  intro b hb
  have := List.all_eq_true.1 h b hb
  simp only [rayB, Bool.and_eq_true, decide_eq_true_eq] at this
  omega
theorem addW_fits (x y : Int) (hx : Fits x) (hy : Fits y) (f : Fits (x + y)) (w : World) : Calls Try.prog 25 #[wideV (rhi x) (rlo x), wideV (rhi y) (rlo y)] w (Ret w (.tuple #[wideV (rhi (x + y)) (rlo (x + y)), .int .i64 0])) := by
  have h := add_any (rhi x) (rlo x) (rhi y) (rlo y) (rhi_i64 _) (rlo_u64 _) (rhi_i64 _) (rlo_u64 _) w
  rw [val_r hx, val_r hy] at h
  have e : rcode (x + y) = 0 := by unfold rcode; rw [if_pos f]
  rw [show (.tuple #[wideV (rhi (x + y)) (rlo (x + y)), .int .i64 0] : Value) = roomV (x + y) by unfold roomV; rw [e]]
  exact h
theorem ray_fits {a r n d dt lo hi : Int} (ha : I64 a) (hr : I64 r) (hn : I64 n) (hd : I64 d) (hd1 : 1 ≤ d) (h1 : 0 ≤ dt ∧ dt ≤ 281474976710656) (h2 : -2305844108725321728 ≤ lo ∧ lo ≤ hi ∧ hi ≤ 2305844108725321728) :
    I64 dt ∧ I64 lo ∧ I64 hi ∧ Fits (a * d) ∧ Fits (n * dt) ∧ Fits r ∧ Fits (a * d + n * dt) ∧ Fits (a * d + n * dt + r) ∧ Fits (lo * d) ∧ Fits (hi * d) := by
  unfold I64 at *
  have m1 := mul_bound (x := a) (y := d) (X := 9223372036854775808) (Y := 9223372036854775808) (by omega) (by omega)
  have m2 := mul_bound (x := n) (y := dt) (X := 9223372036854775808) (Y := 281474976710656) (by omega) (by omega)
  have m3 := mul_bound (x := lo) (y := d) (X := 2305844108725321728) (Y := 9223372036854775808) (by omega) (by omega)
  have m4 := mul_bound (x := hi) (y := d) (X := 2305844108725321728) (Y := 9223372036854775808) (by omega) (by omega)
  unfold Fits
  refine ⟨?_, ?_, ?_, ?_, ?_, ?_, ?_, ?_, ?_, ?_⟩ <;> omega
theorem cmpI_neg (x y : Int) : decide (cmpI x y < 0) = decide (x < y) := by
  unfold cmpI
  by_cases g : x = y
  · rw [if_pos g]; simp [g]
  · rw [if_neg g]
    by_cases g2 : x < y
    · rw [if_pos g2, decide_eq_true (by omega), decide_eq_true (by omega)]
    · rw [if_neg g2, decide_eq_false (by omega), decide_eq_false (by omega)]
theorem ray_no {a r n d : Int} {l : List Bd} {k : Nat} {t lo hi : Int} (h : l[k]? = some ⟨t, lo, hi⟩) (hn : rayB a r n d (t - headT l) lo hi = false) : rayG a r n d l = false := by
  unfold rayG
  rw [List.all_eq_false]
  exact ⟨_, List.mem_of_getElem? h, by rw [hn]; decide⟩
theorem ray_more {f : Bd → Bool} {l : List Bd} {k : Nat} {b : Bd} (h0 : (l.take k).all f = true) (h : l[k]? = some b) (hn : f b = true) : (l.take (k + 1)).all f = true := by
  rw [List.take_add_one, h]
  simp only [Option.toList_some, List.all_append, h0, List.all_cons, hn, List.all_nil, Bool.and_true]
theorem gb_lt {w W : World} {p0 p1 p2 p3 p4 p5 : Nat × Nat × Value} {gb : Nat} {u : Value} {M : List (Nat × Nat × Value)} (h : Keeps w (p0 :: p1 :: p2 :: p3 :: p4 :: p5 :: (gb, 0, u) :: M) W) : w.heap.size ≤ W.heap.size ∧ gb < W.heap.size :=
  ⟨h.1.size, h.2.2.2.2.2.2.2.1.1⟩
set_option maxRecDepth 100000 in
set_option maxHeartbeats 4000000 in
theorem through_any (a r n d : Int) (ha : I64 a) (hr : I64 r) (hn : I64 n) (hd : I64 d) (hd1 : 1 ≤ d) (l : List Bd) (hl : l.length ≤ 1000000) (hT : ∀ b ∈ l, BdOk b ∧ headT l ≤ b.t) (v : Value) (w : World) (h : ReadsD w v l) :
    Calls Try.prog 10 #[lnV a r n d, v] w (Ret w (.bool (rayG a r n d l))) := by
  have HR := Lib.hid h
  obtain ⟨A, c, rfl, hc, hk⟩ := h
  have HK := Lib.hid hk
  have HTT := Lib.hid hT
  have HI := Lib.hid (And.intro ha (And.intro hr (And.intro hn (And.intro hd hd1))))
  clear hk hT ha hr hn hd hd1
  go_enter Try.func10, Try.ntmps10
  have hH0 : Hid (Keeps w [(w.heap.size, 0, .int .i64 a), (w.heap.size, 1, .int .i64 r), (w.heap.size, 2, .int .i64 n), (w.heap.size, 3, .int .i64 d)] (w.alloc (.cells #[.int .i64 a, .int .i64 r, .int .i64 n, .int .i64 d] 24))) :=
    Lib.hid ⟨below_alloc w _, by simp [Cells, go_sem]⟩
  have AS : Hid ((l.take 0).all (fun b => rayB a r n d (b.t - headT l) b.lo b.hi) = true) := Lib.hid rfl
  go_wp2_with fail
  go_loopw [12] (fun i wr => ∃ (k : Nat), i = .int .i64 k ∧ k ≤ l.length ∧ Hid ((l.take k).all (fun b => rayB a r n d (b.t - headT l) b.lo b.hi) = true) ∧ Hid (Keeps w [(w.heap.size, 0, .int .i64 a), (w.heap.size, 1, .int .i64 r), (w.heap.size, 2, .int .i64 n), (w.heap.size, 3, .int .i64 d)] wr)) (fun i _ => l.length - (intOf i).toNat)
  case atStart => exact ⟨0, rfl, Nat.zero_le _, AS, hH0⟩
  case round =>
    obtain ⟨k, rfl, hkl, hA, hB⟩ := hrel
    clear hH0 AS
    by_cases gk : k < l.length
    · obtain ⟨⟨t, lo, hi⟩, hx⟩ : ∃ s, l[k]? = some s := ⟨_, List.getElem?_eq_getElem gk⟩
      obtain ⟨b0, hx0⟩ : ∃ s, l[0]? = some s := ⟨l[0]'(by omega), List.getElem?_eq_getElem _⟩
      obtain ⟨bb, off, e', hbw, hp0, _⟩ := HK.out 0 _ hx0
      cases e'
      obtain ⟨_, _, e1, _, hc1, hc2, hc3⟩ := HK.out k _ hx
      cases e1
      simp only [Nat.zero_mul, Nat.add_zero] at hp0
      have ht0 : b0.t = headT l := by
        cases l with
        | nil => simp at hx0
        | cons x q => simp at hx0; subst hx0; rfl
      rw [ht0] at hp0
      have c1 := (hB.out.1.cell (p := ⟨bb, off + k * 3, none⟩) hbw).trans hc1
      have c2 := (hB.out.1.cell (p := ⟨bb, off + k * 3 + 1, none⟩) hbw).trans hc2
      have c3 := (hB.out.1.cell (p := ⟨bb, off + k * 3 + 2, none⟩) hbw).trans hc3
      simp only at c1 c2 c3
      have i1 : (k : Int) < (l.length : Int) := by omega
      have i0 : (0 : Int) ≤ (k : Int) := by omega
      have i4 : (0 : Int) < (l.length : Int) := by omega
      have i5 : 0 < l.length := by omega
      obtain ⟨⟨q1, q2, q3, q4, q5⟩, q6⟩ := HTT.out _ (List.mem_of_getElem? hx)
      have q7 := (HTT.out _ (List.mem_of_getElem? hx0)).1.1
      rw [ht0] at q7
      simp only at q1 q2 q3 q4 q5 q6
      have HX := Lib.hid hx
      obtain ⟨t0, ht⟩ : ∃ t0, t0 = headT l := ⟨_, rfl⟩
      have HT0 := Lib.hid ht
      rw [← ht] at hp0 q6 q7
      have HP := Lib.hid hp0
      have FI := ray_fits (dt := t - t0) (lo := lo) (hi := hi) HI.out.1 HI.out.2.1 HI.out.2.2.1 HI.out.2.2.2.1 HI.out.2.2.2.2 (by omega) (by omega)
      obtain ⟨j1, j2, j3, g1, g2, g3, g4, g5, g6, g7⟩ := FI
      have e1 : IntKind.i64.wrap (t - t0) = t - t0 := by rw [IntKind.wrap_i64]; unfold I64 at j1; omega
      have e2 : wrap64 (t - t0) = t - t0 := by unfold I64 at j1; exact i64_keeps (by omega) (by omega)
      have M1 := Lib.hid (fun W => mul_any n (t - t0) HI.out.2.2.1 j1 W)
      have M2 := Lib.hid (fun W => mul_any a d HI.out.1 HI.out.2.2.2.1 W)
      have M3 := Lib.hid (fun W => addW_fits (a * d) (n * (t - t0)) g1 g2 g4 W)
      have M4 := Lib.hid (fun W => of_any r HI.out.2.1 W)
      have M5 := Lib.hid (fun W => addW_fits (a * d + n * (t - t0)) r g4 g3 g5 W)
      have M6 := Lib.hid (fun W => mul_any lo d j2 HI.out.2.2.2.1 W)
      have M7 := Lib.hid (fun W => compare_fits (a * d + n * (t - t0) + r) (lo * d) g5 g6 W)
      have M8 := Lib.hid (fun W => mul_any hi d j3 HI.out.2.2.2.1 W)
      have M9 := Lib.hid (fun W => compare_fits (a * d + n * (t - t0) + r) (hi * d) g5 g7 W)
      have CL := cmpI_neg (a * d + n * (t - t0) + r) (lo * d)
      have CH := cmpI_pos (a * d + n * (t - t0) + r) (hi * d)
      have RB : Hid (rayB a r n d (t - t0) lo hi = (decide (lo * d ≤ a * d + n * (t - t0) + r) && decide (a * d + n * (t - t0) + r ≤ hi * d))) := Lib.hid rfl
      have hHeld := (hB.out.alloc (.cells #[.int .i64 t, .int .i64 lo, .int .i64 hi] 50)).app (newK3 (hB.out.alloc (.cells #[.int .i64 t, .int .i64 lo, .int .i64 hi] 50)))
      have HH := Lib.hid hHeld
      have hB0 := Lib.hid hB.out
      clear hc1 hc2 hc3 hx hx0 hB hHeld hp0 ht0 ht j1 j2 j3 g1 g2 g3 g4 g5 g6 g7 q1 q2 q3 q4 q5 q6 q7
      generalize a * d + n * (t - t0) + r = zz at *
      generalize cmpI zz (lo * d) = cl at *
      generalize cmpI zz (hi * d) = ch at *
      generalize rhi zz = z0 at *
      generalize rlo zz = z1 at *
      generalize rhi (a * d + n * (t - t0)) = s0 at *
      generalize rlo (a * d + n * (t - t0)) = s1 at *
      generalize rhi (n * (t - t0)) = x0 at *
      generalize rlo (n * (t - t0)) = x1 at *
      generalize rhi (a * d) = y0 at *
      generalize rlo (a * d) = y1 at *
      go_upto_region 4 with (fail)
      have hHs : Keeps w [(w.heap.size, 0, .int .i64 a), (w.heap.size, 1, .int .i64 r), (w.heap.size, 2, .int .i64 n), (w.heap.size, 3, .int .i64 d), (wr.heap.size, 0, .int .i64 t), (wr.heap.size, 1, .int .i64 lo), (wr.heap.size, 2, .int .i64 hi)] (wr.alloc (.cells #[.int .i64 t, .int .i64 lo, .int .i64 hi] 50)) := HH.out
      generalize wr.alloc (.cells #[.int .i64 t, .int .i64 lo, .int .i64 hi] 50) = wi at hHs ⊢
      have HGB : Hid (w.heap.size < wr.heap.size) := Lib.hid hB0.out.2.1.1
      generalize wr.heap.size = gb at *
      clear HH hB0
      go_cut [7] (fun s7 wx => ∃ g : Nat, s7 = .pointer (some ⟨g, 0, none⟩) ∧ Keeps w [(g, 0, .int .i64 x0), (g, 1, .int .u64 x1), (w.heap.size, 0, .int .i64 a), (w.heap.size, 1, .int .i64 r), (w.heap.size, 2, .int .i64 n), (w.heap.size, 3, .int .i64 d), (gb, 0, .int .i64 t), (gb, 1, .int .i64 lo), (gb, 2, .int .i64 hi)] wx)
      case first =>
        refine region_keeps (w0 := w) (L := [(w.heap.size, 0, .int .i64 a), (w.heap.size, 1, .int .i64 r), (w.heap.size, 2, .int .i64 n), (w.heap.size, 3, .int .i64 d), (gb, 0, .int .i64 t), (gb, 1, .int .i64 lo), (gb, 2, .int .i64 hi)]) (by kernel_rfl) hHs (fun hHeld0 => ?_)
        refine wpAnyH_take (i := 0) (oi := ⟨some 16, _, _, _, _, _⟩) (v := ?_) rfl (by kernel_rfl) (by kernel_rfl) (by kernel_rfl) (fun _ _ _ h => h) (Or.inl ⟨by rfl, ?_⟩) (by assumption) ?_
        rotate_left
        · intro wq hSw; go_simp; (try with_reducible rfl)
        try simp only [Act.put, List.setIfInBounds_toArray, List.set_cons_zero, List.set_cons_succ]
        refine wpAnyH_take (i := 1) (oi := ⟨some 17, _, _, _, _, _⟩) (v := ?_) rfl (by kernel_rfl) (by kernel_rfl) (by kernel_rfl) (fun _ _ _ h => h) (Or.inl ⟨by rfl, ?_⟩) (by assumption) ?_
        rotate_left
        · intro wq hSw; obtain ⟨⟨qz0, qc0, qf0⟩, ⟨qz1, qc1, qf1⟩, ⟨qz2, qc2, qf2⟩, ⟨qz3, qc3, qf3⟩, ⟨qz4, qc4, qf4⟩, ⟨qz5, qc5, qf5⟩, ⟨qz6, qc6, qf6⟩, _⟩ := hSw.2; have hp4 := (hSw.1.cell (p := ⟨bb, off, none⟩) hbw).trans HP.out; go_simp; (try with_reducible rfl)
        try simp only [Act.put, List.setIfInBounds_toArray, List.set_cons_zero, List.set_cons_succ]
        refine wpAnyH_take (i := 2) (oi := ⟨some 18, _, _, _, _, _⟩) (v := ?_) rfl (by kernel_rfl) (by kernel_rfl) (by kernel_rfl) (fun _ _ _ h => h) (Or.inl ⟨by rfl, ?_⟩) (by assumption) ?_
        rotate_left
        · intro wq hSw; go_simp; (try with_reducible rfl)
        try simp only [Act.put, List.setIfInBounds_toArray, List.set_cons_zero, List.set_cons_succ]
        refine wpAnyH_take (i := 3) (oi := ⟨some 19, _, _, _, _, _⟩) (v := ?_) rfl (by kernel_rfl) (by kernel_rfl) (by kernel_rfl) (fun _ _ _ h => h) (Or.inl ⟨by rfl, ?_⟩) (by assumption) ?_
        rotate_left
        · intro wq hSw; obtain ⟨⟨qz0, qc0, qf0⟩, ⟨qz1, qc1, qf1⟩, ⟨qz2, qc2, qf2⟩, ⟨qz3, qc3, qf3⟩, ⟨qz4, qc4, qf4⟩, ⟨qz5, qc5, qf5⟩, ⟨qz6, qc6, qf6⟩, _⟩ := hSw.2; have hp4 := (hSw.1.cell (p := ⟨bb, off, none⟩) hbw).trans HP.out; go_simp; (try with_reducible rfl)
        try simp only [Act.put, List.setIfInBounds_toArray, List.set_cons_zero, List.set_cons_succ]
        refine wpAnyH_take (i := 4) (oi := ⟨some 20, _, _, _, _, _⟩) (v := ?_) rfl (by kernel_rfl) (by kernel_rfl) (by kernel_rfl) (fun _ _ _ h => h) (Or.inl ⟨by rfl, ?_⟩) (by assumption) ?_
        rotate_left
        · intro wq hSw; go_simp; (try with_reducible rfl)
        try simp only [Act.put, List.setIfInBounds_toArray, List.set_cons_zero, List.set_cons_succ]
        refine wpAnyH_take (i := 5) (oi := ⟨some 21, _, _, _, _, _⟩) (v := ?_) rfl (by kernel_rfl) (by kernel_rfl) (by kernel_rfl) (fun _ _ _ h => h) (Or.inl ⟨by rfl, ?_⟩) (by assumption) ?_
        rotate_left
        · intro wq hSw; go_simp; (try with_reducible rfl)
        try simp only [Act.put, List.setIfInBounds_toArray, List.set_cons_zero, List.set_cons_succ]
        refine wpAnyH_take (i := 6) (oi := ⟨some 22, _, _, _, _, _⟩) (v := ?_) rfl (by kernel_rfl) (by kernel_rfl) (by kernel_rfl) (fun _ _ _ h => h) (Or.inl ⟨by rfl, ?_⟩) (by assumption) ?_
        rotate_left
        · intro wq hSw; go_simp; (try with_reducible rfl)
        try simp only [Act.put, List.setIfInBounds_toArray, List.set_cons_zero, List.set_cons_succ]
        refine wpAnyH_take (i := 7) (oi := ⟨some 23, _, _, _, _, _⟩) (v := ?_) rfl (by kernel_rfl) (by kernel_rfl) (by kernel_rfl) (fun _ _ _ h => h) (Or.inl ⟨by rfl, ?_⟩) (by assumption) ?_
        rotate_left
        · intro wq hSw; obtain ⟨⟨qz0, qc0, qf0⟩, ⟨qz1, qc1, qf1⟩, ⟨qz2, qc2, qf2⟩, ⟨qz3, qc3, qf3⟩, ⟨qz4, qc4, qf4⟩, ⟨qz5, qc5, qf5⟩, ⟨qz6, qc6, qf6⟩, _⟩ := hSw.2; have hp4 := (hSw.1.cell (p := ⟨bb, off, none⟩) hbw).trans HP.out; go_simp; (try with_reducible rfl)
        try simp only [Act.put, List.setIfInBounds_toArray, List.set_cons_zero, List.set_cons_succ]
        refine wpAnyH_take (i := 8) (oi := ⟨some 24, _, _, _, _, _⟩) (v := ?_) rfl (by kernel_rfl) (by kernel_rfl) (by kernel_rfl) (fun _ _ _ h => h) (Or.inl ⟨by rfl, ?_⟩) (by assumption) ?_
        rotate_left
        · intro wq hSw; go_simp; (try with_reducible rfl)
        try simp only [Act.put, List.setIfInBounds_toArray, List.set_cons_zero, List.set_cons_succ]
        refine wpAnyH_ready (rs := [9, 10]) (by kernel_rfl) (by simp) ?_
        refine AllReadyH.cons (o := ⟨some 25, _, _, _, _, _⟩) rfl (fun K hK => ?_) ?_
        go_simp
        ((try rw [e1]); (try rw [e2]); (with_reducible refine (M1.out _).mono ?_); rintro e wa ⟨rfl, hb⟩)
        refine hK.out _ _ (hHeld0.next hb) (fun hHeld1 => ?_)
        clear hK K
        try clear hb
        try simp only [Act.put, List.setIfInBounds_toArray, List.set_cons_zero, List.set_cons_succ]
        refine wpAnyH_ready (rs := [10]) (by kernel_rfl) (by simp) ?_
        refine AllReadyH.cons (o := ⟨some 7, _, _, _, _, _⟩) rfl (fun K hK => ?_) AllReadyH.nil
        have lo7 := hHeld1.1.size
        obtain ⟨⟨a7_z0, a7_c0, a7_f0⟩, ⟨a7_z1, a7_c1, a7_f1⟩, ⟨a7_z2, a7_c2, a7_f2⟩, ⟨a7_z3, a7_c3, a7_f3⟩, ⟨a7_z4, a7_c4, a7_f4⟩, ⟨a7_z5, a7_c5, a7_f5⟩, ⟨a7_z6, a7_c6, a7_f6⟩, _⟩ := hHeld1.2
        (try simp at lo7); (try simp at a7_z0); (try simp at a7_z1); (try simp at a7_z2); (try simp at a7_z3); (try simp at a7_z4); (try simp at a7_z5); (try simp at a7_z6)
        go_simp
        refine hK.out _ _ (by first | exact hHeld1.alloc _ | exact (hHeld1.alloc _).drew) (fun hHeld2 => ?_)
        first | have hS7 := newK2 hHeld2 | have hS7 := newK2d hHeld2
        clear hK K
        try clear hb
        try simp only [Act.put, List.setIfInBounds_toArray, List.set_cons_zero, List.set_cons_succ]
        generalize hGWA1 : World.alloc wa (.cells #[.int .i64 0, .int .u64 0] 41) = WA1 at *
        clear hGWA1
        refine wpAnyH_ready (rs := [11]) (by kernel_rfl) (by simp) ?_
        refine AllReadyH.cons (o := ⟨none, _, _, _, _, _⟩) rfl (fun K hK => ?_) AllReadyH.nil
        obtain ⟨⟨s7z0, s7c0, s7f0⟩, ⟨s7z1, s7c1, s7f1⟩, _⟩ := hS7.2
        go_simp
        refine hK.out _ _ (by (repeat (first | (with_reducible exact hHeld2) | (refine Keeps.set ?_ (by simp <;> omega) (by simp <;> omega) _)))) (fun hHeld3 => ?_)
        replace hS7 := hHeld3.add2 s7z0 s7c0 s7f0 s7c1 s7f1
        clear s7z0 s7c0 s7f0 s7z1 s7c1 s7f1
        clear hK K
        try clear hb
        try simp only [Act.put, List.setIfInBounds_toArray, List.set_cons_zero, List.set_cons_succ]
        generalize hGWA2 : World.setCell (World.setCell WA1 ⟨wa.heap.size, 0, none⟩ (.int .i64 x0)) ⟨wa.heap.size, 1, none⟩ (.int .u64 x1) = WA2 at *
        clear hGWA2
        refine wpAnyH_done (by kernel_rfl) ?_ _
        have hHeld := hHeld3
        rotate_left 1
        refine AllReadyH.cons (o := ⟨some 7, _, _, _, _, _⟩) rfl (fun K hK => ?_) ?_
        have lo7 := hHeld0.1.size
        obtain ⟨⟨a7_z0, a7_c0, a7_f0⟩, ⟨a7_z1, a7_c1, a7_f1⟩, ⟨a7_z2, a7_c2, a7_f2⟩, ⟨a7_z3, a7_c3, a7_f3⟩, ⟨a7_z4, a7_c4, a7_f4⟩, ⟨a7_z5, a7_c5, a7_f5⟩, ⟨a7_z6, a7_c6, a7_f6⟩, _⟩ := hHeld0.2
        (try simp at lo7); (try simp at a7_z0); (try simp at a7_z1); (try simp at a7_z2); (try simp at a7_z3); (try simp at a7_z4); (try simp at a7_z5); (try simp at a7_z6)
        go_simp
        refine hK.out _ _ (by first | exact hHeld0.alloc _ | exact (hHeld0.alloc _).drew) (fun hHeld4 => ?_)
        first | have hS7 := newK2 hHeld4 | have hS7 := newK2d hHeld4
        clear hK K
        try clear hb
        try simp only [Act.put, List.setIfInBounds_toArray, List.set_cons_zero, List.set_cons_succ]
        generalize hGWA3 : World.alloc wi (.cells #[.int .i64 0, .int .u64 0] 41) = WA3 at *
        clear hGWA3
        refine wpAnyH_ready (rs := [9]) (by kernel_rfl) (by simp) ?_
        refine AllReadyH.cons (o := ⟨some 25, _, _, _, _, _⟩) rfl (fun K hK => ?_) AllReadyH.nil
        go_simp
        ((try rw [e1]); (try rw [e2]); (with_reducible refine (M1.out _).mono ?_); rintro e wa ⟨rfl, hb⟩)
        refine hK.out _ _ (hHeld4.next hb) (fun hHeld5 => ?_)
        replace hS7 := hS7.next hb
        clear hK K
        try clear hb
        try simp only [Act.put, List.setIfInBounds_toArray, List.set_cons_zero, List.set_cons_succ]
        refine wpAnyH_ready (rs := [11]) (by kernel_rfl) (by simp) ?_
        refine AllReadyH.cons (o := ⟨none, _, _, _, _, _⟩) rfl (fun K hK => ?_) AllReadyH.nil
        obtain ⟨⟨s7z0, s7c0, s7f0⟩, ⟨s7z1, s7c1, s7f1⟩, _⟩ := hS7.2
        go_simp
        refine hK.out _ _ (by (repeat (first | (with_reducible exact hHeld5) | (refine Keeps.set ?_ (by simp <;> omega) (by simp <;> omega) _)))) (fun hHeld6 => ?_)
        replace hS7 := hHeld6.add2 s7z0 s7c0 s7f0 s7c1 s7f1
        clear s7z0 s7c0 s7f0 s7z1 s7c1 s7f1
        clear hK K
        try clear hb
        try simp only [Act.put, List.setIfInBounds_toArray, List.set_cons_zero, List.set_cons_succ]
        generalize hGWA4 : World.setCell (World.setCell wa ⟨wi.heap.size, 0, none⟩ (.int .i64 x0)) ⟨wi.heap.size, 1, none⟩ (.int .u64 x1) = WA4 at *
        clear hGWA4
        refine wpAnyH_done (by kernel_rfl) ?_ _
        have hHeld := hHeld6
        rotate_left 1
        exact AllReadyH.nil
        all_goals
          go_wp2_with fail
          go_meet
          case rel =>
            obtain ⟨hb, a0, a1, b0, b1, b2, b3, b4, b5, b6, _⟩ := hS7
            exact ⟨_, rfl, hb, a0, a1, b0, b1, b2, b3, b4, b5, b6, trivial⟩
      case rest =>
        clear hHs M1 c1 c2 c3 e1 e2
        obtain ⟨g, rfl, hHs⟩ := hcut
        go_upto_region 5 with (fail)
        go_cut [8, 9] (fun s8 s9 wx => s9 = .int .i64 0 ∧ ∃ g8 : Nat, s8 = .pointer (some ⟨g8, 0, none⟩) ∧ w.heap.size ≤ g8 ∧ Keeps w [(g8, 0, .int .i64 s0), (g8, 1, .int .u64 s1), (w.heap.size, 0, .int .i64 a), (w.heap.size, 1, .int .i64 r), (w.heap.size, 2, .int .i64 n), (w.heap.size, 3, .int .i64 d), (gb, 0, .int .i64 t), (gb, 1, .int .i64 lo), (gb, 2, .int .i64 hi)] wx ∧ w.heap.size + 1 ≤ gb ∧ gb + 1 ≤ g8)
        case first =>
          refine region_keeps (w0 := w) (L := [(g, 0, .int .i64 x0), (g, 1, .int .u64 x1), (w.heap.size, 0, .int .i64 a), (w.heap.size, 1, .int .i64 r), (w.heap.size, 2, .int .i64 n), (w.heap.size, 3, .int .i64 d), (gb, 0, .int .i64 t), (gb, 1, .int .i64 lo), (gb, 2, .int .i64 hi)]) (by kernel_rfl) hHs (fun hHeld0 => ?_)
          refine wpAnyH_take (i := 0) (oi := ⟨some 27, _, _, _, _, _⟩) (v := ?_) rfl (by kernel_rfl) (by kernel_rfl) (by kernel_rfl) (fun _ _ _ h => h) (Or.inl ⟨by rfl, ?_⟩) (by assumption) ?_
          rotate_left
          · intro wq hSw; go_simp; (try with_reducible rfl)
          try simp only [Act.put, List.setIfInBounds_toArray, List.set_cons_zero, List.set_cons_succ]
          refine wpAnyH_take (i := 1) (oi := ⟨some 28, _, _, _, _, _⟩) (v := ?_) rfl (by kernel_rfl) (by kernel_rfl) (by kernel_rfl) (fun _ _ _ h => h) (Or.inl ⟨by rfl, ?_⟩) (by assumption) ?_
          rotate_left
          · intro wq hSw; obtain ⟨⟨qz0, qc0, qf0⟩, ⟨qz1, qc1, qf1⟩, ⟨qz2, qc2, qf2⟩, ⟨qz3, qc3, qf3⟩, ⟨qz4, qc4, qf4⟩, ⟨qz5, qc5, qf5⟩, ⟨qz6, qc6, qf6⟩, ⟨qz7, qc7, qf7⟩, ⟨qz8, qc8, qf8⟩, _⟩ := hSw.2; go_simp; (try with_reducible rfl)
          try simp only [Act.put, List.setIfInBounds_toArray, List.set_cons_zero, List.set_cons_succ]
          refine wpAnyH_take (i := 2) (oi := ⟨some 29, _, _, _, _, _⟩) (v := ?_) rfl (by kernel_rfl) (by kernel_rfl) (by kernel_rfl) (fun _ _ _ h => h) (Or.inl ⟨by rfl, ?_⟩) (by assumption) ?_
          rotate_left
          · intro wq hSw; go_simp; (try with_reducible rfl)
          try simp only [Act.put, List.setIfInBounds_toArray, List.set_cons_zero, List.set_cons_succ]
          refine wpAnyH_take (i := 3) (oi := ⟨some 30, _, _, _, _, _⟩) (v := ?_) rfl (by kernel_rfl) (by kernel_rfl) (by kernel_rfl) (fun _ _ _ h => h) (Or.inl ⟨by rfl, ?_⟩) (by assumption) ?_
          rotate_left
          · intro wq hSw; obtain ⟨⟨qz0, qc0, qf0⟩, ⟨qz1, qc1, qf1⟩, ⟨qz2, qc2, qf2⟩, ⟨qz3, qc3, qf3⟩, ⟨qz4, qc4, qf4⟩, ⟨qz5, qc5, qf5⟩, ⟨qz6, qc6, qf6⟩, ⟨qz7, qc7, qf7⟩, ⟨qz8, qc8, qf8⟩, _⟩ := hSw.2; go_simp; (try with_reducible rfl)
          try simp only [Act.put, List.setIfInBounds_toArray, List.set_cons_zero, List.set_cons_succ]
          refine wpAnyH_take (i := 5) (oi := ⟨some 32, _, _, _, _, _⟩) (v := ?_) rfl (by kernel_rfl) (by kernel_rfl) (by kernel_rfl) (fun _ _ _ h => h) (Or.inl ⟨by rfl, ?_⟩) (by assumption) ?_
          rotate_left
          · intro wq hSw; obtain ⟨⟨qz0, qc0, qf0⟩, ⟨qz1, qc1, qf1⟩, ⟨qz2, qc2, qf2⟩, ⟨qz3, qc3, qf3⟩, ⟨qz4, qc4, qf4⟩, ⟨qz5, qc5, qf5⟩, ⟨qz6, qc6, qf6⟩, ⟨qz7, qc7, qf7⟩, ⟨qz8, qc8, qf8⟩, _⟩ := hSw.2; go_simp; (try with_reducible rfl)
          try simp only [Act.put, List.setIfInBounds_toArray, List.set_cons_zero, List.set_cons_succ]
          refine wpAnyH_ready (rs := [4, 10]) (by kernel_rfl) (by simp) ?_
          refine AllReadyH.cons (o := ⟨some 31, _, _, _, _, _⟩) rfl (fun K hK => ?_) ?_
          go_simp
          (first | ((with_reducible refine (M2.out _).mono ?_); rintro e wa ⟨rfl, hb⟩) | ((with_reducible refine (M3.out _).mono ?_); rintro e wb ⟨rfl, hb⟩))
          refine hK.out _ _ (hHeld0.next hb) (fun hHeld1 => ?_)
          clear hK K
          try clear hb
          try simp only [Act.put, List.setIfInBounds_toArray, List.set_cons_zero, List.set_cons_succ]
          refine wpAnyH_ready (rs := [6, 10]) (by kernel_rfl) (by simp) ?_
          refine AllReadyH.cons (o := ⟨some 33, _, _, _, _, _⟩) rfl (fun K hK => ?_) ?_
          go_simp
          (first | ((with_reducible refine (M2.out _).mono ?_); rintro e wa ⟨rfl, hb⟩) | ((with_reducible refine (M3.out _).mono ?_); rintro e wb ⟨rfl, hb⟩))
          refine hK.out _ _ (hHeld1.next hb) (fun hHeld2 => ?_)
          clear hK K
          try clear hb
          try simp only [Act.put, List.setIfInBounds_toArray, List.set_cons_zero, List.set_cons_succ]
          refine wpAnyH_take (i := 7) (oi := ⟨some 26, _, _, _, _, _⟩) (v := ?_) rfl (by kernel_rfl) (by kernel_rfl) (by kernel_rfl) (fun _ _ _ h => h) (Or.inl ⟨by rfl, ?_⟩) (by assumption) ?_
          rotate_left
          · intro wq hSw; go_simp; (try with_reducible rfl)
          try simp only [Act.put, List.setIfInBounds_toArray, List.set_cons_zero, List.set_cons_succ]
          refine wpAnyH_take (i := 8) (oi := ⟨some 34, _, _, _, _, _⟩) (v := ?_) rfl (by kernel_rfl) (by kernel_rfl) (by kernel_rfl) (fun _ _ _ h => h) (Or.inl ⟨by rfl, ?_⟩) (by assumption) ?_
          rotate_left
          · intro wq hSw; go_simp; (try with_reducible rfl)
          try simp only [Act.put, List.setIfInBounds_toArray, List.set_cons_zero, List.set_cons_succ]
          refine wpAnyH_take (i := 9) (oi := ⟨some 35, _, _, _, _, _⟩) (v := ?_) rfl (by kernel_rfl) (by kernel_rfl) (by kernel_rfl) (fun _ _ _ h => h) (Or.inl ⟨by rfl, ?_⟩) (by assumption) ?_
          rotate_left
          · intro wq hSw; go_simp; (try with_reducible rfl)
          try simp only [Act.put, List.setIfInBounds_toArray, List.set_cons_zero, List.set_cons_succ]
          refine wpAnyH_ready (rs := [10]) (by kernel_rfl) (by simp) ?_
          refine AllReadyH.cons (o := ⟨some 8, _, _, _, _, _⟩) rfl (fun K hK => ?_) AllReadyH.nil
          have lo8 := hHeld2.1.size
          obtain ⟨⟨a8_z0, a8_c0, a8_f0⟩, ⟨a8_z1, a8_c1, a8_f1⟩, ⟨a8_z2, a8_c2, a8_f2⟩, ⟨a8_z3, a8_c3, a8_f3⟩, ⟨a8_z4, a8_c4, a8_f4⟩, ⟨a8_z5, a8_c5, a8_f5⟩, ⟨a8_z6, a8_c6, a8_f6⟩, ⟨a8_z7, a8_c7, a8_f7⟩, ⟨a8_z8, a8_c8, a8_f8⟩, _⟩ := hHeld2.2
          (try simp at lo8); (try simp at a8_z0); (try simp at a8_z1); (try simp at a8_z2); (try simp at a8_z3); (try simp at a8_z4); (try simp at a8_z5); (try simp at a8_z6); (try simp at a8_z7); (try simp at a8_z8)
          go_simp
          refine hK.out _ _ (by first | exact hHeld2.alloc _ | exact (hHeld2.alloc _).drew) (fun hHeld3 => ?_)
          first | have hS8 := newK2 hHeld3 | have hS8 := newK2d hHeld3
          clear hK K
          try clear hb
          try simp only [Act.put, List.setIfInBounds_toArray, List.set_cons_zero, List.set_cons_succ]
          generalize hGWA1 : World.alloc wb (.cells #[.int .i64 0, .int .u64 0] 41) = WA1 at *
          clear hGWA1
          refine wpAnyH_ready (rs := [11]) (by kernel_rfl) (by simp) ?_
          refine AllReadyH.cons (o := ⟨none, _, _, _, _, _⟩) rfl (fun K hK => ?_) AllReadyH.nil
          obtain ⟨⟨s8z0, s8c0, s8f0⟩, ⟨s8z1, s8c1, s8f1⟩, _⟩ := hS8.2
          go_simp
          refine hK.out _ _ (by (repeat (first | (with_reducible exact hHeld3) | (refine Keeps.set ?_ (by simp <;> omega) (by simp <;> omega) _)))) (fun hHeld4 => ?_)
          replace hS8 := hHeld4.add2 s8z0 s8c0 s8f0 s8c1 s8f1
          clear s8z0 s8c0 s8f0 s8z1 s8c1 s8f1
          clear hK K
          try clear hb
          try simp only [Act.put, List.setIfInBounds_toArray, List.set_cons_zero, List.set_cons_succ]
          generalize hGWA2 : World.setCell (World.setCell WA1 ⟨wb.heap.size, 0, none⟩ (.int .i64 s0)) ⟨wb.heap.size, 1, none⟩ (.int .u64 s1) = WA2 at *
          clear hGWA2
          refine wpAnyH_take (i := 12) (oi := ⟨some 9, _, _, _, _, _⟩) (v := ?_) rfl (by kernel_rfl) (by kernel_rfl) (by kernel_rfl) (fun _ _ _ h => h) (Or.inl ⟨by rfl, ?_⟩) (by assumption) ?_
          rotate_left
          · intro wq hSw; go_simp; (try with_reducible rfl)
          try simp only [Act.put, List.setIfInBounds_toArray, List.set_cons_zero, List.set_cons_succ]
          refine wpAnyH_done (by kernel_rfl) ?_ _
          have hHeld := hHeld4
          rotate_left 1
          refine AllReadyH.cons (o := ⟨some 8, _, _, _, _, _⟩) rfl (fun K hK => ?_) ?_
          have lo8 := hHeld1.1.size
          obtain ⟨⟨a8_z0, a8_c0, a8_f0⟩, ⟨a8_z1, a8_c1, a8_f1⟩, ⟨a8_z2, a8_c2, a8_f2⟩, ⟨a8_z3, a8_c3, a8_f3⟩, ⟨a8_z4, a8_c4, a8_f4⟩, ⟨a8_z5, a8_c5, a8_f5⟩, ⟨a8_z6, a8_c6, a8_f6⟩, ⟨a8_z7, a8_c7, a8_f7⟩, ⟨a8_z8, a8_c8, a8_f8⟩, _⟩ := hHeld1.2
          (try simp at lo8); (try simp at a8_z0); (try simp at a8_z1); (try simp at a8_z2); (try simp at a8_z3); (try simp at a8_z4); (try simp at a8_z5); (try simp at a8_z6); (try simp at a8_z7); (try simp at a8_z8)
          go_simp
          refine hK.out _ _ (by first | exact hHeld1.alloc _ | exact (hHeld1.alloc _).drew) (fun hHeld5 => ?_)
          first | have hS8 := newK2 hHeld5 | have hS8 := newK2d hHeld5
          clear hK K
          try clear hb
          try simp only [Act.put, List.setIfInBounds_toArray, List.set_cons_zero, List.set_cons_succ]
          generalize hGWA3 : World.alloc wa (.cells #[.int .i64 0, .int .u64 0] 41) = WA3 at *
          clear hGWA3
          refine wpAnyH_ready (rs := [6]) (by kernel_rfl) (by simp) ?_
          refine AllReadyH.cons (o := ⟨some 33, _, _, _, _, _⟩) rfl (fun K hK => ?_) AllReadyH.nil
          go_simp
          (first | ((with_reducible refine (M2.out _).mono ?_); rintro e wa ⟨rfl, hb⟩) | ((with_reducible refine (M3.out _).mono ?_); rintro e wb ⟨rfl, hb⟩))
          refine hK.out _ _ (hHeld5.next hb) (fun hHeld6 => ?_)
          replace hS8 := hS8.next hb
          clear hK K
          try clear hb
          try simp only [Act.put, List.setIfInBounds_toArray, List.set_cons_zero, List.set_cons_succ]
          refine wpAnyH_take (i := 7) (oi := ⟨some 26, _, _, _, _, _⟩) (v := ?_) rfl (by kernel_rfl) (by kernel_rfl) (by kernel_rfl) (fun _ _ _ h => h) (Or.inl ⟨by rfl, ?_⟩) (by assumption) ?_
          rotate_left
          · intro wq hSw; go_simp; (try with_reducible rfl)
          try simp only [Act.put, List.setIfInBounds_toArray, List.set_cons_zero, List.set_cons_succ]
          refine wpAnyH_take (i := 8) (oi := ⟨some 34, _, _, _, _, _⟩) (v := ?_) rfl (by kernel_rfl) (by kernel_rfl) (by kernel_rfl) (fun _ _ _ h => h) (Or.inl ⟨by rfl, ?_⟩) (by assumption) ?_
          rotate_left
          · intro wq hSw; go_simp; (try with_reducible rfl)
          try simp only [Act.put, List.setIfInBounds_toArray, List.set_cons_zero, List.set_cons_succ]
          refine wpAnyH_take (i := 9) (oi := ⟨some 35, _, _, _, _, _⟩) (v := ?_) rfl (by kernel_rfl) (by kernel_rfl) (by kernel_rfl) (fun _ _ _ h => h) (Or.inl ⟨by rfl, ?_⟩) (by assumption) ?_
          rotate_left
          · intro wq hSw; go_simp; (try with_reducible rfl)
          try simp only [Act.put, List.setIfInBounds_toArray, List.set_cons_zero, List.set_cons_succ]
          refine wpAnyH_ready (rs := [11]) (by kernel_rfl) (by simp) ?_
          refine AllReadyH.cons (o := ⟨none, _, _, _, _, _⟩) rfl (fun K hK => ?_) AllReadyH.nil
          obtain ⟨⟨s8z0, s8c0, s8f0⟩, ⟨s8z1, s8c1, s8f1⟩, _⟩ := hS8.2
          go_simp
          refine hK.out _ _ (by (repeat (first | (with_reducible exact hHeld6) | (refine Keeps.set ?_ (by simp <;> omega) (by simp <;> omega) _)))) (fun hHeld7 => ?_)
          replace hS8 := hHeld7.add2 s8z0 s8c0 s8f0 s8c1 s8f1
          clear s8z0 s8c0 s8f0 s8z1 s8c1 s8f1
          clear hK K
          try clear hb
          try simp only [Act.put, List.setIfInBounds_toArray, List.set_cons_zero, List.set_cons_succ]
          generalize hGWA4 : World.setCell (World.setCell wb ⟨wa.heap.size, 0, none⟩ (.int .i64 s0)) ⟨wa.heap.size, 1, none⟩ (.int .u64 s1) = WA4 at *
          clear hGWA4
          refine wpAnyH_take (i := 12) (oi := ⟨some 9, _, _, _, _, _⟩) (v := ?_) rfl (by kernel_rfl) (by kernel_rfl) (by kernel_rfl) (fun _ _ _ h => h) (Or.inl ⟨by rfl, ?_⟩) (by assumption) ?_
          rotate_left
          · intro wq hSw; go_simp; (try with_reducible rfl)
          try simp only [Act.put, List.setIfInBounds_toArray, List.set_cons_zero, List.set_cons_succ]
          refine wpAnyH_done (by kernel_rfl) ?_ _
          have hHeld := hHeld7
          rotate_left 1
          exact AllReadyH.nil
          refine AllReadyH.cons (o := ⟨some 8, _, _, _, _, _⟩) rfl (fun K hK => ?_) ?_
          have lo8 := hHeld0.1.size
          obtain ⟨⟨a8_z0, a8_c0, a8_f0⟩, ⟨a8_z1, a8_c1, a8_f1⟩, ⟨a8_z2, a8_c2, a8_f2⟩, ⟨a8_z3, a8_c3, a8_f3⟩, ⟨a8_z4, a8_c4, a8_f4⟩, ⟨a8_z5, a8_c5, a8_f5⟩, ⟨a8_z6, a8_c6, a8_f6⟩, ⟨a8_z7, a8_c7, a8_f7⟩, ⟨a8_z8, a8_c8, a8_f8⟩, _⟩ := hHeld0.2
          (try simp at lo8); (try simp at a8_z0); (try simp at a8_z1); (try simp at a8_z2); (try simp at a8_z3); (try simp at a8_z4); (try simp at a8_z5); (try simp at a8_z6); (try simp at a8_z7); (try simp at a8_z8)
          go_simp
          refine hK.out _ _ (by first | exact hHeld0.alloc _ | exact (hHeld0.alloc _).drew) (fun hHeld8 => ?_)
          first | have hS8 := newK2 hHeld8 | have hS8 := newK2d hHeld8
          clear hK K
          try clear hb
          try simp only [Act.put, List.setIfInBounds_toArray, List.set_cons_zero, List.set_cons_succ]
          generalize hGWA5 : World.alloc wc (.cells #[.int .i64 0, .int .u64 0] 41) = WA5 at *
          clear hGWA5
          refine wpAnyH_ready (rs := [4]) (by kernel_rfl) (by simp) ?_
          refine AllReadyH.cons (o := ⟨some 31, _, _, _, _, _⟩) rfl (fun K hK => ?_) AllReadyH.nil
          go_simp
          (first | ((with_reducible refine (M2.out _).mono ?_); rintro e wa ⟨rfl, hb⟩) | ((with_reducible refine (M3.out _).mono ?_); rintro e wb ⟨rfl, hb⟩))
          refine hK.out _ _ (hHeld8.next hb) (fun hHeld9 => ?_)
          replace hS8 := hS8.next hb
          clear hK K
          try clear hb
          try simp only [Act.put, List.setIfInBounds_toArray, List.set_cons_zero, List.set_cons_succ]
          refine wpAnyH_ready (rs := [6]) (by kernel_rfl) (by simp) ?_
          refine AllReadyH.cons (o := ⟨some 33, _, _, _, _, _⟩) rfl (fun K hK => ?_) AllReadyH.nil
          go_simp
          (first | ((with_reducible refine (M2.out _).mono ?_); rintro e wa ⟨rfl, hb⟩) | ((with_reducible refine (M3.out _).mono ?_); rintro e wb ⟨rfl, hb⟩))
          refine hK.out _ _ (hHeld9.next hb) (fun hHeld10 => ?_)
          replace hS8 := hS8.next hb
          clear hK K
          try clear hb
          try simp only [Act.put, List.setIfInBounds_toArray, List.set_cons_zero, List.set_cons_succ]
          refine wpAnyH_take (i := 7) (oi := ⟨some 26, _, _, _, _, _⟩) (v := ?_) rfl (by kernel_rfl) (by kernel_rfl) (by kernel_rfl) (fun _ _ _ h => h) (Or.inl ⟨by rfl, ?_⟩) (by assumption) ?_
          rotate_left
          · intro wq hSw; go_simp; (try with_reducible rfl)
          try simp only [Act.put, List.setIfInBounds_toArray, List.set_cons_zero, List.set_cons_succ]
          refine wpAnyH_take (i := 8) (oi := ⟨some 34, _, _, _, _, _⟩) (v := ?_) rfl (by kernel_rfl) (by kernel_rfl) (by kernel_rfl) (fun _ _ _ h => h) (Or.inl ⟨by rfl, ?_⟩) (by assumption) ?_
          rotate_left
          · intro wq hSw; go_simp; (try with_reducible rfl)
          try simp only [Act.put, List.setIfInBounds_toArray, List.set_cons_zero, List.set_cons_succ]
          refine wpAnyH_take (i := 9) (oi := ⟨some 35, _, _, _, _, _⟩) (v := ?_) rfl (by kernel_rfl) (by kernel_rfl) (by kernel_rfl) (fun _ _ _ h => h) (Or.inl ⟨by rfl, ?_⟩) (by assumption) ?_
          rotate_left
          · intro wq hSw; go_simp; (try with_reducible rfl)
          try simp only [Act.put, List.setIfInBounds_toArray, List.set_cons_zero, List.set_cons_succ]
          refine wpAnyH_ready (rs := [11]) (by kernel_rfl) (by simp) ?_
          refine AllReadyH.cons (o := ⟨none, _, _, _, _, _⟩) rfl (fun K hK => ?_) AllReadyH.nil
          obtain ⟨⟨s8z0, s8c0, s8f0⟩, ⟨s8z1, s8c1, s8f1⟩, _⟩ := hS8.2
          go_simp
          refine hK.out _ _ (by (repeat (first | (with_reducible exact hHeld10) | (refine Keeps.set ?_ (by simp <;> omega) (by simp <;> omega) _)))) (fun hHeld11 => ?_)
          replace hS8 := hHeld11.add2 s8z0 s8c0 s8f0 s8c1 s8f1
          clear s8z0 s8c0 s8f0 s8z1 s8c1 s8f1
          clear hK K
          try clear hb
          try simp only [Act.put, List.setIfInBounds_toArray, List.set_cons_zero, List.set_cons_succ]
          generalize hGWA6 : World.setCell (World.setCell wb ⟨wc.heap.size, 0, none⟩ (.int .i64 s0)) ⟨wc.heap.size, 1, none⟩ (.int .u64 s1) = WA6 at *
          clear hGWA6
          refine wpAnyH_take (i := 12) (oi := ⟨some 9, _, _, _, _, _⟩) (v := ?_) rfl (by kernel_rfl) (by kernel_rfl) (by kernel_rfl) (fun _ _ _ h => h) (Or.inl ⟨by rfl, ?_⟩) (by assumption) ?_
          rotate_left
          · intro wq hSw; go_simp; (try with_reducible rfl)
          try simp only [Act.put, List.setIfInBounds_toArray, List.set_cons_zero, List.set_cons_succ]
          refine wpAnyH_done (by kernel_rfl) ?_ _
          have hHeld := hHeld11
          rotate_left 1
          exact AllReadyH.nil
          all_goals
            go_wp2_with fail
            go_meet
            case rel =>
              obtain ⟨hb, a0, a1, _, _, b0, b1, b2, b3, b4, b5, b6, _⟩ := hS8
              refine ⟨rfl, _, rfl, ?_, ⟨hb, a0, a1, b0, b1, b2, b3, b4, b5, b6, trivial⟩, HGB.out, ?_⟩
              · first | exact (gb_lt hHeld3).1 | exact (gb_lt hHeld2).1 | exact (gb_lt hHeld1).1 | exact (gb_lt hHs).1 | exact (gb_lt hHeld).1
              · first | exact (gb_lt hHeld3).2 | exact (gb_lt hHeld2).2 | exact (gb_lt hHeld1).2 | exact (gb_lt hHs).2 | exact (gb_lt hHeld).2
        case rest =>
          clear hHs M2 M3
          obtain ⟨rfl, g8, rfl, hg8, hHs, hgb, hgg⟩ := hcut
          go_upto_region 6 with (fail)
          go_cut [] (fun wx => Keeps w [(g8, 0, .int .i64 z0), (g8, 1, .int .u64 z1), (w.heap.size, 0, .int .i64 a), (w.heap.size, 1, .int .i64 r), (w.heap.size, 2, .int .i64 n), (w.heap.size, 3, .int .i64 d), (gb, 0, .int .i64 t), (gb, 1, .int .i64 lo), (gb, 2, .int .i64 hi)] wx)
          case first =>
            have hS0 : Keeps w [(w.heap.size, 0, .int .i64 a), (w.heap.size, 1, .int .i64 r), (w.heap.size, 2, .int .i64 n), (w.heap.size, 3, .int .i64 d), (gb, 0, .int .i64 t), (gb, 1, .int .i64 lo), (gb, 2, .int .i64 hi)] wc := ⟨hHs.1, hHs.2.2.2⟩
            have hN : ∀ q ∈ [(w.heap.size, (0 : Nat), Value.int .i64 a), (w.heap.size, 1, .int .i64 r), (w.heap.size, 2, .int .i64 n), (w.heap.size, 3, .int .i64 d), (gb, 0, .int .i64 t), (gb, 1, .int .i64 lo), (gb, 2, .int .i64 hi)], q.1 ≠ g8 := by
              intro q hq
              simp only [List.mem_cons, List.not_mem_nil, or_false] at hq
              rcases hq with rfl | rfl | rfl | rfl | rfl | rfl | rfl <;> (show _ ≠ g8; omega)
            refine region_keepsB (w0 := w) (L := [(w.heap.size, 0, .int .i64 a), (w.heap.size, 1, .int .i64 r), (w.heap.size, 2, .int .i64 n), (w.heap.size, 3, .int .i64 d), (gb, 0, .int .i64 t), (gb, 1, .int .i64 lo), (gb, 2, .int .i64 hi)]) (M := [(g8, 0, .int .i64 s0), (g8, 1, .int .u64 s1)]) (by kernel_rfl) hS0 ⟨hHs.1, hHs.2.1, hHs.2.2.1, trivial⟩ (fun hHeld0 hT0 => ?_)
            refine wpAnyH_take (i := 1) (oi := ⟨some 38, _, _, _, _, _⟩) (v := ?_) rfl (by kernel_rfl) (by kernel_rfl) (by kernel_rfl) (fun _ _ _ h => h) (Or.inl ⟨by rfl, ?_⟩) (by assumption) ?_
            rotate_left
            · intro wq hSw; go_simp; (try with_reducible rfl)
            try simp only [Act.put, List.setIfInBounds_toArray, List.set_cons_zero, List.set_cons_succ]
            refine wpAnyH_take (i := 2) (oi := ⟨some 39, _, _, _, _, _⟩) (v := ?_) rfl (by kernel_rfl) (by kernel_rfl) (by kernel_rfl) (fun _ _ _ h => h) (Or.inl ⟨by rfl, ?_⟩) (by assumption) ?_
            rotate_left
            · intro wq hSw; obtain ⟨⟨qz0, qc0, qf0⟩, ⟨qz1, qc1, qf1⟩, ⟨qz2, qc2, qf2⟩, ⟨qz3, qc3, qf3⟩, ⟨qz4, qc4, qf4⟩, ⟨qz5, qc5, qf5⟩, ⟨qz6, qc6, qf6⟩, _⟩ := hSw.2; go_simp; (try with_reducible rfl)
            try simp only [Act.put, List.setIfInBounds_toArray, List.set_cons_zero, List.set_cons_succ]
            refine wpAnyH_ready (rs := [0, 3]) (by kernel_rfl) (by simp) ?_
            refine AllReadyH.cons (o := ⟨some 37, _, _, _, _, _⟩) rfl (fun K hK => ?_) ?_
            obtain ⟨⟨kz0, kc0, kf0⟩, ⟨kz1, kc1, kf1⟩, ⟨kz2, kc2, kf2⟩, ⟨kz3, kc3, kf3⟩, ⟨kz4, kc4, kf4⟩, ⟨kz5, kc5, kf5⟩, ⟨kz6, kc6, kf6⟩, _⟩ := hHeld0.2
            obtain ⟨⟨t0z0, t0c0, t0f0⟩, ⟨t0z1, t0c1, t0f1⟩, _⟩ := hT0.2
            go_simp
            refine hK.out _ _ (by first | exact hHeld0 | (first | exact hHeld | (refine ⟨by go_grown, ?_⟩; simp [Cells, go_sem]; done))) (fun hHeld1 => ?_)
            clear hK K
            try clear hb
            try simp only [Act.put, List.setIfInBounds_toArray, List.set_cons_zero, List.set_cons_succ]
            refine wpAnyH_ready (rs := [3]) (by kernel_rfl) (by simp) ?_
            refine AllReadyH.cons (o := ⟨some 40, _, _, _, _, _⟩) rfl (fun K hK => ?_) AllReadyH.nil
            go_simp
            (first | ((with_reducible refine (M4.out _).mono ?_); rintro e wa ⟨rfl, hb⟩) | ((with_reducible refine (M5.out _).mono ?_); rintro e wb ⟨rfl, hb⟩))
            refine hK.out _ _ (hHeld1.next hb) (fun hHeld2 => ?_)
            replace hT0 := hT0.next hb
            clear hK K
            try clear hb
            try simp only [Act.put, List.setIfInBounds_toArray, List.set_cons_zero, List.set_cons_succ]
            refine wpAnyH_ready (rs := [4]) (by kernel_rfl) (by simp) ?_
            refine AllReadyH.cons (o := ⟨some 41, _, _, _, _, _⟩) rfl (fun K hK => ?_) AllReadyH.nil
            go_simp
            (first | ((with_reducible refine (M4.out _).mono ?_); rintro e wa ⟨rfl, hb⟩) | ((with_reducible refine (M5.out _).mono ?_); rintro e wb ⟨rfl, hb⟩))
            refine hK.out _ _ (hHeld2.next hb) (fun hHeld3 => ?_)
            replace hT0 := hT0.next hb
            clear hK K
            try clear hb
            try simp only [Act.put, List.setIfInBounds_toArray, List.set_cons_zero, List.set_cons_succ]
            refine wpAnyH_take (i := 5) (oi := ⟨some 36, _, _, _, _, _⟩) (v := ?_) rfl (by kernel_rfl) (by kernel_rfl) (by kernel_rfl) (fun _ _ _ h => h) (Or.inl ⟨by rfl, ?_⟩) (by assumption) ?_
            rotate_left
            · intro wq hSw; go_simp; (try with_reducible rfl)
            try simp only [Act.put, List.setIfInBounds_toArray, List.set_cons_zero, List.set_cons_succ]
            refine wpAnyH_take (i := 6) (oi := ⟨some 42, _, _, _, _, _⟩) (v := ?_) rfl (by kernel_rfl) (by kernel_rfl) (by kernel_rfl) (fun _ _ _ h => h) (Or.inl ⟨by rfl, ?_⟩) (by assumption) ?_
            rotate_left
            · intro wq hSw; go_simp; (try with_reducible rfl)
            try simp only [Act.put, List.setIfInBounds_toArray, List.set_cons_zero, List.set_cons_succ]
            refine wpAnyH_take (i := 7) (oi := ⟨some 43, _, _, _, _, _⟩) (v := ?_) rfl (by kernel_rfl) (by kernel_rfl) (by kernel_rfl) (fun _ _ _ h => h) (Or.inl ⟨by rfl, ?_⟩) (by assumption) ?_
            rotate_left
            · intro wq hSw; go_simp; (try with_reducible rfl)
            try simp only [Act.put, List.setIfInBounds_toArray, List.set_cons_zero, List.set_cons_succ]
            refine wpAnyH_ready (rs := [8]) (by kernel_rfl) (by simp) ?_
            refine AllReadyH.cons (o := ⟨none, _, _, _, _, _⟩) rfl (fun K hK => ?_) AllReadyH.nil
            obtain ⟨⟨t0z0, t0c0, t0f0⟩, ⟨t0z1, t0c1, t0f1⟩, _⟩ := hT0.2; (try simp at t0z0); (try simp at t0c0); (try simp at t0f0); (try simp at t0z1); (try simp at t0c1); (try simp at t0f1)
            go_simp
            refine hK.out _ _ ((by first | exact ((hHeld3.set (p := ⟨g8, 0, none⟩) hg8 hN _).set (p := ⟨g8, 1, none⟩) hg8 hN _) | exact ((hHeld3.set (p := ⟨g8, 0, none⟩) hg8 hN _).set (p := ⟨g8, 1, none⟩) hg8 hN _).drew)) (fun hHeld4 => ?_)
            clear hK K
            try clear hb
            try simp only [Act.put, List.setIfInBounds_toArray, List.set_cons_zero, List.set_cons_succ]
            refine wpAnyH_done (by kernel_rfl) ?_ _
            have hHeld := hHeld4
            obtain ⟨⟨kz0, kc0, kf0⟩, ⟨kz1, kc1, kf1⟩, ⟨kz2, kc2, kf2⟩, ⟨kz3, kc3, kf3⟩, ⟨kz4, kc4, kf4⟩, ⟨kz5, kc5, kf5⟩, ⟨kz6, kc6, kf6⟩, _⟩ := hHeld.2
            rotate_left 1
            refine AllReadyH.cons (o := ⟨some 40, _, _, _, _, _⟩) rfl (fun K hK => ?_) ?_
            go_simp
            (first | ((with_reducible refine (M4.out _).mono ?_); rintro e wa ⟨rfl, hb⟩) | ((with_reducible refine (M5.out _).mono ?_); rintro e wb ⟨rfl, hb⟩))
            refine hK.out _ _ (hHeld0.next hb) (fun hHeld5 => ?_)
            replace hT0 := hT0.next hb
            clear hK K
            try clear hb
            try simp only [Act.put, List.setIfInBounds_toArray, List.set_cons_zero, List.set_cons_succ]
            refine wpAnyH_ready (rs := [0]) (by kernel_rfl) (by simp) ?_
            refine AllReadyH.cons (o := ⟨some 37, _, _, _, _, _⟩) rfl (fun K hK => ?_) AllReadyH.nil
            obtain ⟨⟨kz0, kc0, kf0⟩, ⟨kz1, kc1, kf1⟩, ⟨kz2, kc2, kf2⟩, ⟨kz3, kc3, kf3⟩, ⟨kz4, kc4, kf4⟩, ⟨kz5, kc5, kf5⟩, ⟨kz6, kc6, kf6⟩, _⟩ := hHeld5.2
            obtain ⟨⟨t0z0, t0c0, t0f0⟩, ⟨t0z1, t0c1, t0f1⟩, _⟩ := hT0.2
            go_simp
            refine hK.out _ _ (by first | exact hHeld5 | (first | exact hHeld | (refine ⟨by go_grown, ?_⟩; simp [Cells, go_sem]; done))) (fun hHeld6 => ?_)
            clear hK K
            try clear hb
            try simp only [Act.put, List.setIfInBounds_toArray, List.set_cons_zero, List.set_cons_succ]
            refine wpAnyH_ready (rs := [4]) (by kernel_rfl) (by simp) ?_
            refine AllReadyH.cons (o := ⟨some 41, _, _, _, _, _⟩) rfl (fun K hK => ?_) AllReadyH.nil
            go_simp
            (first | ((with_reducible refine (M4.out _).mono ?_); rintro e wa ⟨rfl, hb⟩) | ((with_reducible refine (M5.out _).mono ?_); rintro e wb ⟨rfl, hb⟩))
            refine hK.out _ _ (hHeld6.next hb) (fun hHeld7 => ?_)
            replace hT0 := hT0.next hb
            clear hK K
            try clear hb
            try simp only [Act.put, List.setIfInBounds_toArray, List.set_cons_zero, List.set_cons_succ]
            refine wpAnyH_take (i := 5) (oi := ⟨some 36, _, _, _, _, _⟩) (v := ?_) rfl (by kernel_rfl) (by kernel_rfl) (by kernel_rfl) (fun _ _ _ h => h) (Or.inl ⟨by rfl, ?_⟩) (by assumption) ?_
            rotate_left
            · intro wq hSw; go_simp; (try with_reducible rfl)
            try simp only [Act.put, List.setIfInBounds_toArray, List.set_cons_zero, List.set_cons_succ]
            refine wpAnyH_take (i := 6) (oi := ⟨some 42, _, _, _, _, _⟩) (v := ?_) rfl (by kernel_rfl) (by kernel_rfl) (by kernel_rfl) (fun _ _ _ h => h) (Or.inl ⟨by rfl, ?_⟩) (by assumption) ?_
            rotate_left
            · intro wq hSw; go_simp; (try with_reducible rfl)
            try simp only [Act.put, List.setIfInBounds_toArray, List.set_cons_zero, List.set_cons_succ]
            refine wpAnyH_take (i := 7) (oi := ⟨some 43, _, _, _, _, _⟩) (v := ?_) rfl (by kernel_rfl) (by kernel_rfl) (by kernel_rfl) (fun _ _ _ h => h) (Or.inl ⟨by rfl, ?_⟩) (by assumption) ?_
            rotate_left
            · intro wq hSw; go_simp; (try with_reducible rfl)
            try simp only [Act.put, List.setIfInBounds_toArray, List.set_cons_zero, List.set_cons_succ]
            refine wpAnyH_ready (rs := [8]) (by kernel_rfl) (by simp) ?_
            refine AllReadyH.cons (o := ⟨none, _, _, _, _, _⟩) rfl (fun K hK => ?_) AllReadyH.nil
            obtain ⟨⟨t0z0, t0c0, t0f0⟩, ⟨t0z1, t0c1, t0f1⟩, _⟩ := hT0.2; (try simp at t0z0); (try simp at t0c0); (try simp at t0f0); (try simp at t0z1); (try simp at t0c1); (try simp at t0f1)
            go_simp
            refine hK.out _ _ ((by first | exact ((hHeld7.set (p := ⟨g8, 0, none⟩) hg8 hN _).set (p := ⟨g8, 1, none⟩) hg8 hN _) | exact ((hHeld7.set (p := ⟨g8, 0, none⟩) hg8 hN _).set (p := ⟨g8, 1, none⟩) hg8 hN _).drew)) (fun hHeld8 => ?_)
            clear hK K
            try clear hb
            try simp only [Act.put, List.setIfInBounds_toArray, List.set_cons_zero, List.set_cons_succ]
            refine wpAnyH_done (by kernel_rfl) ?_ _
            have hHeld := hHeld8
            obtain ⟨⟨kz0, kc0, kf0⟩, ⟨kz1, kc1, kf1⟩, ⟨kz2, kc2, kf2⟩, ⟨kz3, kc3, kf3⟩, ⟨kz4, kc4, kf4⟩, ⟨kz5, kc5, kf5⟩, ⟨kz6, kc6, kf6⟩, _⟩ := hHeld.2
            rotate_left 1
            exact AllReadyH.nil
            all_goals
              go_wp2_with fail
              go_meet
              case rel =>
                refine ⟨hHeld.1, ⟨?_, ?_, ?_⟩, ⟨?_, ?_, ?_⟩, hHeld.2⟩
                · simp; omega
                · simp [go_sem, *]
                · simp [*]
                · simp; omega
                · simp [go_sem, *]
                · simp [*]
          case rest =>
            clear hHs M4 M5
            have hHs := hcut
            clear hcut
            go_upto_region 7 with (fail)
            by_cases gl : zz < lo * d
            · rw [decide_eq_true gl] at CL
              have hq : cl < 0 := of_decide_eq_true CL
              have RN : Hid (rayG a r n d l = false) := Lib.hid (ray_no HX.out (by rw [← HT0.out]; exact RB.out.trans (by rw [decide_eq_false (by omega)]; rfl)))
              clear CL CH gl M8 M9
              generalize rhi (lo * d) = p0 at *
              generalize rlo (lo * d) = p1 at *
              refine region_keeps (w0 := w) (L := [(g8, 0, .int .i64 z0), (g8, 1, .int .u64 z1), (w.heap.size, 0, .int .i64 a), (w.heap.size, 1, .int .i64 r), (w.heap.size, 2, .int .i64 n), (w.heap.size, 3, .int .i64 d), (gb, 0, .int .i64 t), (gb, 1, .int .i64 lo), (gb, 2, .int .i64 hi)]) (by kernel_rfl) hHs (fun hHeld0 => ?_)
              refine wpAnyH_take (i := 0) (oi := ⟨some 44, _, _, _, _, _⟩) (v := ?_) rfl (by kernel_rfl) (by kernel_rfl) (by kernel_rfl) (fun _ _ _ h => h) (Or.inl ⟨by rfl, ?_⟩) (by assumption) ?_
              rotate_left
              · intro wq hSw; obtain ⟨⟨qz0, qc0, qf0⟩, ⟨qz1, qc1, qf1⟩, ⟨qz2, qc2, qf2⟩, ⟨qz3, qc3, qf3⟩, ⟨qz4, qc4, qf4⟩, ⟨qz5, qc5, qf5⟩, ⟨qz6, qc6, qf6⟩, ⟨qz7, qc7, qf7⟩, ⟨qz8, qc8, qf8⟩, _⟩ := hSw.2; go_simp; (try with_reducible rfl)
              try simp only [Act.put, List.setIfInBounds_toArray, List.set_cons_zero, List.set_cons_succ]
              refine wpAnyH_take (i := 1) (oi := ⟨some 45, _, _, _, _, _⟩) (v := ?_) rfl (by kernel_rfl) (by kernel_rfl) (by kernel_rfl) (fun _ _ _ h => h) (Or.inl ⟨by rfl, ?_⟩) (by assumption) ?_
              rotate_left
              · intro wq hSw; go_simp; (try with_reducible rfl)
              try simp only [Act.put, List.setIfInBounds_toArray, List.set_cons_zero, List.set_cons_succ]
              refine wpAnyH_take (i := 2) (oi := ⟨some 46, _, _, _, _, _⟩) (v := ?_) rfl (by kernel_rfl) (by kernel_rfl) (by kernel_rfl) (fun _ _ _ h => h) (Or.inl ⟨by rfl, ?_⟩) (by assumption) ?_
              rotate_left
              · intro wq hSw; obtain ⟨⟨qz0, qc0, qf0⟩, ⟨qz1, qc1, qf1⟩, ⟨qz2, qc2, qf2⟩, ⟨qz3, qc3, qf3⟩, ⟨qz4, qc4, qf4⟩, ⟨qz5, qc5, qf5⟩, ⟨qz6, qc6, qf6⟩, ⟨qz7, qc7, qf7⟩, ⟨qz8, qc8, qf8⟩, _⟩ := hSw.2; go_simp; (try with_reducible rfl)
              try simp only [Act.put, List.setIfInBounds_toArray, List.set_cons_zero, List.set_cons_succ]
              refine wpAnyH_take (i := 3) (oi := ⟨some 47, _, _, _, _, _⟩) (v := ?_) rfl (by kernel_rfl) (by kernel_rfl) (by kernel_rfl) (fun _ _ _ h => h) (Or.inl ⟨by rfl, ?_⟩) (by assumption) ?_
              rotate_left
              · intro wq hSw; go_simp; (try with_reducible rfl)
              try simp only [Act.put, List.setIfInBounds_toArray, List.set_cons_zero, List.set_cons_succ]
              refine wpAnyH_take (i := 4) (oi := ⟨some 48, _, _, _, _, _⟩) (v := ?_) rfl (by kernel_rfl) (by kernel_rfl) (by kernel_rfl) (fun _ _ _ h => h) (Or.inl ⟨by rfl, ?_⟩) (by assumption) ?_
              rotate_left
              · intro wq hSw; obtain ⟨⟨qz0, qc0, qf0⟩, ⟨qz1, qc1, qf1⟩, ⟨qz2, qc2, qf2⟩, ⟨qz3, qc3, qf3⟩, ⟨qz4, qc4, qf4⟩, ⟨qz5, qc5, qf5⟩, ⟨qz6, qc6, qf6⟩, ⟨qz7, qc7, qf7⟩, ⟨qz8, qc8, qf8⟩, _⟩ := hSw.2; go_simp; (try with_reducible rfl)
              try simp only [Act.put, List.setIfInBounds_toArray, List.set_cons_zero, List.set_cons_succ]
              refine wpAnyH_ready (rs := [5]) (by kernel_rfl) (by simp) ?_
              refine AllReadyH.cons (o := ⟨some 49, _, _, _, _, _⟩) rfl (fun K hK => ?_) AllReadyH.nil
              go_simp
              (first | ((with_reducible refine (M6.out _).mono ?_); rintro e wa ⟨rfl, hb⟩) | ((with_reducible refine (M7.out _).mono ?_); rintro e wb ⟨rfl, hb⟩) | ((with_reducible refine (M8.out _).mono ?_); rintro e wd ⟨rfl, hb⟩) | ((with_reducible refine (M9.out _).mono ?_); rintro e we ⟨rfl, hb⟩))
              refine hK.out _ _ (hHeld0.next hb) (fun hHeld1 => ?_)
              clear hK K
              try clear hb
              try simp only [Act.put, List.setIfInBounds_toArray, List.set_cons_zero, List.set_cons_succ]
              refine wpAnyH_ready (rs := [6]) (by kernel_rfl) (by simp) ?_
              refine AllReadyH.cons (o := ⟨some 50, _, _, _, _, _⟩) rfl (fun K hK => ?_) AllReadyH.nil
              go_simp
              (first | ((with_reducible refine (M6.out _).mono ?_); rintro e wa ⟨rfl, hb⟩) | ((with_reducible refine (M7.out _).mono ?_); rintro e wb ⟨rfl, hb⟩) | ((with_reducible refine (M8.out _).mono ?_); rintro e wd ⟨rfl, hb⟩) | ((with_reducible refine (M9.out _).mono ?_); rintro e we ⟨rfl, hb⟩))
              refine hK.out _ _ (hHeld1.next hb) (fun hHeld2 => ?_)
              clear hK K
              try clear hb
              try simp only [Act.put, List.setIfInBounds_toArray, List.set_cons_zero, List.set_cons_succ]
              refine wpAnyH_take (i := 7) (oi := ⟨some 51, _, _, _, _, _⟩) (v := ?_) rfl (by kernel_rfl) (by kernel_rfl) (by kernel_rfl) (fun _ _ _ h => h) (Or.inl ⟨by rfl, ?_⟩) (by assumption) ?_
              rotate_left
              · intro wq hSw; go_simp; (try with_reducible rfl)
              try simp only [Act.put, List.setIfInBounds_toArray, List.set_cons_zero, List.set_cons_succ]
              refine wpAnyH_take (i := 8) (oi := ⟨some 52, _, _, _, _, _⟩) (v := ?_) rfl (by kernel_rfl) (by kernel_rfl) (by kernel_rfl) (fun _ _ _ h => h) (Or.inl ⟨by rfl, ?_⟩) (by assumption) ?_
              rotate_left
              · intro wq hSw; go_simp; (try with_reducible rfl)
              try simp only [Act.put, List.setIfInBounds_toArray, List.set_cons_zero, List.set_cons_succ]
              refine wpAnyH_take (i := 9) (oi := ⟨some 53, _, _, _, _, _⟩) (v := undef) rfl (by kernel_rfl) (by kernel_rfl) (by kernel_rfl) (fun _ _ _ h => h) (Or.inr ⟨by rfl, rfl⟩) (by assumption) ?_
              try simp only [Act.put, List.setIfInBounds_toArray, List.set_cons_zero, List.set_cons_succ]
              refine wpAnyH_take (i := 10) (oi := ⟨some 54, _, _, _, _, _⟩) (v := undef) rfl (by kernel_rfl) (by kernel_rfl) (by kernel_rfl) (fun _ _ _ h => h) (Or.inr ⟨by rfl, rfl⟩) (by assumption) ?_
              try simp only [Act.put, List.setIfInBounds_toArray, List.set_cons_zero, List.set_cons_succ]
              refine wpAnyH_take (i := 11) (oi := ⟨some 55, _, _, _, _, _⟩) (v := undef) rfl (by kernel_rfl) (by kernel_rfl) (by kernel_rfl) (fun _ _ _ h => h) (Or.inr ⟨by rfl, rfl⟩) (by assumption) ?_
              try simp only [Act.put, List.setIfInBounds_toArray, List.set_cons_zero, List.set_cons_succ]
              refine wpAnyH_take (i := 12) (oi := ⟨some 56, _, _, _, _, _⟩) (v := undef) rfl (by kernel_rfl) (by kernel_rfl) (by kernel_rfl) (fun _ _ _ h => h) (Or.inr ⟨by rfl, rfl⟩) (by assumption) ?_
              try simp only [Act.put, List.setIfInBounds_toArray, List.set_cons_zero, List.set_cons_succ]
              refine wpAnyH_take (i := 13) (oi := ⟨some 57, _, _, _, _, _⟩) (v := undef) rfl (by kernel_rfl) (by kernel_rfl) (by kernel_rfl) (fun _ _ _ h => h) (Or.inr ⟨by rfl, rfl⟩) (by assumption) ?_
              try simp only [Act.put, List.setIfInBounds_toArray, List.set_cons_zero, List.set_cons_succ]
              refine wpAnyH_take (i := 14) (oi := ⟨some 58, _, _, _, _, _⟩) (v := undef) rfl (by kernel_rfl) (by kernel_rfl) (by kernel_rfl) (fun _ _ _ h => h) (Or.inr ⟨by rfl, rfl⟩) (by assumption) ?_
              try simp only [Act.put, List.setIfInBounds_toArray, List.set_cons_zero, List.set_cons_succ]
              refine wpAnyH_take (i := 15) (oi := ⟨some 59, _, _, _, _, _⟩) (v := undef) rfl (by kernel_rfl) (by kernel_rfl) (by kernel_rfl) (fun _ _ _ h => h) (Or.inr ⟨by rfl, rfl⟩) (by assumption) ?_
              try simp only [Act.put, List.setIfInBounds_toArray, List.set_cons_zero, List.set_cons_succ]
              refine wpAnyH_take (i := 16) (oi := ⟨some 60, _, _, _, _, _⟩) (v := undef) rfl (by kernel_rfl) (by kernel_rfl) (by kernel_rfl) (fun _ _ _ h => h) (Or.inr ⟨by rfl, rfl⟩) (by assumption) ?_
              try simp only [Act.put, List.setIfInBounds_toArray, List.set_cons_zero, List.set_cons_succ]
              refine wpAnyH_take (i := 17) (oi := ⟨some 61, _, _, _, _, _⟩) (v := ?_) rfl (by kernel_rfl) (by kernel_rfl) (by kernel_rfl) (fun _ _ _ h => h) (Or.inl ⟨by rfl, ?_⟩) (by assumption) ?_
              rotate_left
              · intro wq hSw; go_simp; (try with_reducible rfl)
              try simp only [Act.put, List.setIfInBounds_toArray, List.set_cons_zero, List.set_cons_succ]
              refine wpAnyH_done (by kernel_rfl) ?_ _
              have hHeld := hHeld2
              obtain ⟨⟨kz0, kc0, kf0⟩, ⟨kz1, kc1, kf1⟩, ⟨kz2, kc2, kf2⟩, ⟨kz3, kc3, kf3⟩, ⟨kz4, kc4, kf4⟩, ⟨kz5, kc5, kf5⟩, ⟨kz6, kc6, kf6⟩, ⟨kz7, kc7, kf7⟩, ⟨kz8, kc8, kf8⟩, _⟩ := hHeld.2
              all_goals
                go_wp2_with fail
                go_ret
                exact ⟨by rw [RN.out]; rfl, hHeld.1⟩
            · rw [decide_eq_false gl] at CL
              have hq : ¬ cl < 0 := of_decide_eq_false CL
              by_cases gh : hi * d < zz
              · rw [decide_eq_true gh] at CH
                have hq2 : ch > 0 := of_decide_eq_true CH
                replace hq2 : 0 < ch := hq2
                have RN : Hid (rayG a r n d l = false) := Lib.hid (ray_no HX.out (by rw [← HT0.out]; exact RB.out.trans (by rw [decide_eq_false (show ¬ zz ≤ hi * d by omega), Bool.and_false])))
                clear CL CH gl gh
                generalize rhi (lo * d) = p0 at *
                generalize rlo (lo * d) = p1 at *
                generalize rhi (hi * d) = q0 at *
                generalize rlo (hi * d) = q1 at *
                refine region_keeps (w0 := w) (L := [(g8, 0, .int .i64 z0), (g8, 1, .int .u64 z1), (w.heap.size, 0, .int .i64 a), (w.heap.size, 1, .int .i64 r), (w.heap.size, 2, .int .i64 n), (w.heap.size, 3, .int .i64 d), (gb, 0, .int .i64 t), (gb, 1, .int .i64 lo), (gb, 2, .int .i64 hi)]) (by kernel_rfl) hHs (fun hHeld0 => ?_)
                refine wpAnyH_take (i := 0) (oi := ⟨some 44, _, _, _, _, _⟩) (v := ?_) rfl (by kernel_rfl) (by kernel_rfl) (by kernel_rfl) (fun _ _ _ h => h) (Or.inl ⟨by rfl, ?_⟩) (by assumption) ?_
                rotate_left
                · intro wq hSw; obtain ⟨⟨qz0, qc0, qf0⟩, ⟨qz1, qc1, qf1⟩, ⟨qz2, qc2, qf2⟩, ⟨qz3, qc3, qf3⟩, ⟨qz4, qc4, qf4⟩, ⟨qz5, qc5, qf5⟩, ⟨qz6, qc6, qf6⟩, ⟨qz7, qc7, qf7⟩, ⟨qz8, qc8, qf8⟩, _⟩ := hSw.2; go_simp; (try with_reducible rfl)
                try simp only [Act.put, List.setIfInBounds_toArray, List.set_cons_zero, List.set_cons_succ]
                refine wpAnyH_take (i := 1) (oi := ⟨some 45, _, _, _, _, _⟩) (v := ?_) rfl (by kernel_rfl) (by kernel_rfl) (by kernel_rfl) (fun _ _ _ h => h) (Or.inl ⟨by rfl, ?_⟩) (by assumption) ?_
                rotate_left
                · intro wq hSw; go_simp; (try with_reducible rfl)
                try simp only [Act.put, List.setIfInBounds_toArray, List.set_cons_zero, List.set_cons_succ]
                refine wpAnyH_take (i := 2) (oi := ⟨some 46, _, _, _, _, _⟩) (v := ?_) rfl (by kernel_rfl) (by kernel_rfl) (by kernel_rfl) (fun _ _ _ h => h) (Or.inl ⟨by rfl, ?_⟩) (by assumption) ?_
                rotate_left
                · intro wq hSw; obtain ⟨⟨qz0, qc0, qf0⟩, ⟨qz1, qc1, qf1⟩, ⟨qz2, qc2, qf2⟩, ⟨qz3, qc3, qf3⟩, ⟨qz4, qc4, qf4⟩, ⟨qz5, qc5, qf5⟩, ⟨qz6, qc6, qf6⟩, ⟨qz7, qc7, qf7⟩, ⟨qz8, qc8, qf8⟩, _⟩ := hSw.2; go_simp; (try with_reducible rfl)
                try simp only [Act.put, List.setIfInBounds_toArray, List.set_cons_zero, List.set_cons_succ]
                refine wpAnyH_take (i := 3) (oi := ⟨some 47, _, _, _, _, _⟩) (v := ?_) rfl (by kernel_rfl) (by kernel_rfl) (by kernel_rfl) (fun _ _ _ h => h) (Or.inl ⟨by rfl, ?_⟩) (by assumption) ?_
                rotate_left
                · intro wq hSw; go_simp; (try with_reducible rfl)
                try simp only [Act.put, List.setIfInBounds_toArray, List.set_cons_zero, List.set_cons_succ]
                refine wpAnyH_take (i := 4) (oi := ⟨some 48, _, _, _, _, _⟩) (v := ?_) rfl (by kernel_rfl) (by kernel_rfl) (by kernel_rfl) (fun _ _ _ h => h) (Or.inl ⟨by rfl, ?_⟩) (by assumption) ?_
                rotate_left
                · intro wq hSw; obtain ⟨⟨qz0, qc0, qf0⟩, ⟨qz1, qc1, qf1⟩, ⟨qz2, qc2, qf2⟩, ⟨qz3, qc3, qf3⟩, ⟨qz4, qc4, qf4⟩, ⟨qz5, qc5, qf5⟩, ⟨qz6, qc6, qf6⟩, ⟨qz7, qc7, qf7⟩, ⟨qz8, qc8, qf8⟩, _⟩ := hSw.2; go_simp; (try with_reducible rfl)
                try simp only [Act.put, List.setIfInBounds_toArray, List.set_cons_zero, List.set_cons_succ]
                refine wpAnyH_ready (rs := [5]) (by kernel_rfl) (by simp) ?_
                refine AllReadyH.cons (o := ⟨some 49, _, _, _, _, _⟩) rfl (fun K hK => ?_) AllReadyH.nil
                go_simp
                (first | ((with_reducible refine (M6.out _).mono ?_); rintro e wa ⟨rfl, hb⟩) | ((with_reducible refine (M7.out _).mono ?_); rintro e wb ⟨rfl, hb⟩) | ((with_reducible refine (M8.out _).mono ?_); rintro e wd ⟨rfl, hb⟩) | ((with_reducible refine (M9.out _).mono ?_); rintro e we ⟨rfl, hb⟩))
                refine hK.out _ _ (hHeld0.next hb) (fun hHeld1 => ?_)
                clear hK K
                try clear hb
                try simp only [Act.put, List.setIfInBounds_toArray, List.set_cons_zero, List.set_cons_succ]
                refine wpAnyH_ready (rs := [6]) (by kernel_rfl) (by simp) ?_
                refine AllReadyH.cons (o := ⟨some 50, _, _, _, _, _⟩) rfl (fun K hK => ?_) AllReadyH.nil
                go_simp
                (first | ((with_reducible refine (M6.out _).mono ?_); rintro e wa ⟨rfl, hb⟩) | ((with_reducible refine (M7.out _).mono ?_); rintro e wb ⟨rfl, hb⟩) | ((with_reducible refine (M8.out _).mono ?_); rintro e wd ⟨rfl, hb⟩) | ((with_reducible refine (M9.out _).mono ?_); rintro e we ⟨rfl, hb⟩))
                refine hK.out _ _ (hHeld1.next hb) (fun hHeld2 => ?_)
                clear hK K
                try clear hb
                try simp only [Act.put, List.setIfInBounds_toArray, List.set_cons_zero, List.set_cons_succ]
                refine wpAnyH_take (i := 7) (oi := ⟨some 51, _, _, _, _, _⟩) (v := ?_) rfl (by kernel_rfl) (by kernel_rfl) (by kernel_rfl) (fun _ _ _ h => h) (Or.inl ⟨by rfl, ?_⟩) (by assumption) ?_
                rotate_left
                · intro wq hSw; go_simp; (try with_reducible rfl)
                try simp only [Act.put, List.setIfInBounds_toArray, List.set_cons_zero, List.set_cons_succ]
                refine wpAnyH_take (i := 8) (oi := ⟨some 52, _, _, _, _, _⟩) (v := ?_) rfl (by kernel_rfl) (by kernel_rfl) (by kernel_rfl) (fun _ _ _ h => h) (Or.inl ⟨by rfl, ?_⟩) (by assumption) ?_
                rotate_left
                · intro wq hSw; go_simp; (try with_reducible rfl)
                try simp only [Act.put, List.setIfInBounds_toArray, List.set_cons_zero, List.set_cons_succ]
                refine wpAnyH_take (i := 9) (oi := ⟨some 53, _, _, _, _, _⟩) (v := ?_) rfl (by kernel_rfl) (by kernel_rfl) (by kernel_rfl) (fun _ _ _ h => h) (Or.inl ⟨by rfl, ?_⟩) (by assumption) ?_
                rotate_left
                · intro wq hSw; obtain ⟨⟨qz0, qc0, qf0⟩, ⟨qz1, qc1, qf1⟩, ⟨qz2, qc2, qf2⟩, ⟨qz3, qc3, qf3⟩, ⟨qz4, qc4, qf4⟩, ⟨qz5, qc5, qf5⟩, ⟨qz6, qc6, qf6⟩, ⟨qz7, qc7, qf7⟩, ⟨qz8, qc8, qf8⟩, _⟩ := hSw.2; go_simp; (try with_reducible rfl)
                try simp only [Act.put, List.setIfInBounds_toArray, List.set_cons_zero, List.set_cons_succ]
                refine wpAnyH_take (i := 10) (oi := ⟨some 54, _, _, _, _, _⟩) (v := ?_) rfl (by kernel_rfl) (by kernel_rfl) (by kernel_rfl) (fun _ _ _ h => h) (Or.inl ⟨by rfl, ?_⟩) (by assumption) ?_
                rotate_left
                · intro wq hSw; go_simp; (try with_reducible rfl)
                try simp only [Act.put, List.setIfInBounds_toArray, List.set_cons_zero, List.set_cons_succ]
                refine wpAnyH_take (i := 11) (oi := ⟨some 55, _, _, _, _, _⟩) (v := ?_) rfl (by kernel_rfl) (by kernel_rfl) (by kernel_rfl) (fun _ _ _ h => h) (Or.inl ⟨by rfl, ?_⟩) (by assumption) ?_
                rotate_left
                · intro wq hSw; obtain ⟨⟨qz0, qc0, qf0⟩, ⟨qz1, qc1, qf1⟩, ⟨qz2, qc2, qf2⟩, ⟨qz3, qc3, qf3⟩, ⟨qz4, qc4, qf4⟩, ⟨qz5, qc5, qf5⟩, ⟨qz6, qc6, qf6⟩, ⟨qz7, qc7, qf7⟩, ⟨qz8, qc8, qf8⟩, _⟩ := hSw.2; go_simp; (try with_reducible rfl)
                try simp only [Act.put, List.setIfInBounds_toArray, List.set_cons_zero, List.set_cons_succ]
                refine wpAnyH_take (i := 12) (oi := ⟨some 56, _, _, _, _, _⟩) (v := ?_) rfl (by kernel_rfl) (by kernel_rfl) (by kernel_rfl) (fun _ _ _ h => h) (Or.inl ⟨by rfl, ?_⟩) (by assumption) ?_
                rotate_left
                · intro wq hSw; go_simp; (try with_reducible rfl)
                try simp only [Act.put, List.setIfInBounds_toArray, List.set_cons_zero, List.set_cons_succ]
                refine wpAnyH_take (i := 13) (oi := ⟨some 57, _, _, _, _, _⟩) (v := ?_) rfl (by kernel_rfl) (by kernel_rfl) (by kernel_rfl) (fun _ _ _ h => h) (Or.inl ⟨by rfl, ?_⟩) (by assumption) ?_
                rotate_left
                · intro wq hSw; obtain ⟨⟨qz0, qc0, qf0⟩, ⟨qz1, qc1, qf1⟩, ⟨qz2, qc2, qf2⟩, ⟨qz3, qc3, qf3⟩, ⟨qz4, qc4, qf4⟩, ⟨qz5, qc5, qf5⟩, ⟨qz6, qc6, qf6⟩, ⟨qz7, qc7, qf7⟩, ⟨qz8, qc8, qf8⟩, _⟩ := hSw.2; go_simp; (try with_reducible rfl)
                try simp only [Act.put, List.setIfInBounds_toArray, List.set_cons_zero, List.set_cons_succ]
                refine wpAnyH_ready (rs := [14]) (by kernel_rfl) (by simp) ?_
                refine AllReadyH.cons (o := ⟨some 58, _, _, _, _, _⟩) rfl (fun K hK => ?_) AllReadyH.nil
                go_simp
                (first | ((with_reducible refine (M6.out _).mono ?_); rintro e wa ⟨rfl, hb⟩) | ((with_reducible refine (M7.out _).mono ?_); rintro e wb ⟨rfl, hb⟩) | ((with_reducible refine (M8.out _).mono ?_); rintro e wd ⟨rfl, hb⟩) | ((with_reducible refine (M9.out _).mono ?_); rintro e we ⟨rfl, hb⟩))
                refine hK.out _ _ (hHeld2.next hb) (fun hHeld3 => ?_)
                clear hK K
                try clear hb
                try simp only [Act.put, List.setIfInBounds_toArray, List.set_cons_zero, List.set_cons_succ]
                refine wpAnyH_ready (rs := [15]) (by kernel_rfl) (by simp) ?_
                refine AllReadyH.cons (o := ⟨some 59, _, _, _, _, _⟩) rfl (fun K hK => ?_) AllReadyH.nil
                go_simp
                (first | ((with_reducible refine (M6.out _).mono ?_); rintro e wa ⟨rfl, hb⟩) | ((with_reducible refine (M7.out _).mono ?_); rintro e wb ⟨rfl, hb⟩) | ((with_reducible refine (M8.out _).mono ?_); rintro e wd ⟨rfl, hb⟩) | ((with_reducible refine (M9.out _).mono ?_); rintro e we ⟨rfl, hb⟩))
                refine hK.out _ _ (hHeld3.next hb) (fun hHeld4 => ?_)
                clear hK K
                try clear hb
                try simp only [Act.put, List.setIfInBounds_toArray, List.set_cons_zero, List.set_cons_succ]
                refine wpAnyH_take (i := 16) (oi := ⟨some 60, _, _, _, _, _⟩) (v := ?_) rfl (by kernel_rfl) (by kernel_rfl) (by kernel_rfl) (fun _ _ _ h => h) (Or.inl ⟨by rfl, ?_⟩) (by assumption) ?_
                rotate_left
                · intro wq hSw; go_simp; (try with_reducible rfl)
                try simp only [Act.put, List.setIfInBounds_toArray, List.set_cons_zero, List.set_cons_succ]
                refine wpAnyH_take (i := 17) (oi := ⟨some 61, _, _, _, _, _⟩) (v := ?_) rfl (by kernel_rfl) (by kernel_rfl) (by kernel_rfl) (fun _ _ _ h => h) (Or.inl ⟨by rfl, ?_⟩) (by assumption) ?_
                rotate_left
                · intro wq hSw; go_simp; (try with_reducible rfl)
                try simp only [Act.put, List.setIfInBounds_toArray, List.set_cons_zero, List.set_cons_succ]
                refine wpAnyH_done (by kernel_rfl) ?_ _
                have hHeld := hHeld4
                obtain ⟨⟨kz0, kc0, kf0⟩, ⟨kz1, kc1, kf1⟩, ⟨kz2, kc2, kf2⟩, ⟨kz3, kc3, kf3⟩, ⟨kz4, kc4, kf4⟩, ⟨kz5, kc5, kf5⟩, ⟨kz6, kc6, kf6⟩, ⟨kz7, kc7, kf7⟩, ⟨kz8, kc8, kf8⟩, _⟩ := hHeld.2
                all_goals
                  go_wp2_with fail
                  go_ret
                  exact ⟨by rw [RN.out]; rfl, hHeld.1⟩
              · rw [decide_eq_false gh] at CH
                have hq2 : ¬ ch > 0 := of_decide_eq_false CH
                replace hq2 : ¬ 0 < ch := hq2
                have RN : Hid (rayB a r n d (t - t0) lo hi = true) := Lib.hid (RB.out.trans (by rw [decide_eq_true (show lo * d ≤ zz by omega), decide_eq_true (show zz ≤ hi * d by omega)]; rfl))
                clear CL CH gl gh
                generalize rhi (lo * d) = p0 at *
                generalize rlo (lo * d) = p1 at *
                generalize rhi (hi * d) = q0 at *
                generalize rlo (hi * d) = q1 at *
                refine region_keeps (w0 := w) (L := [(g8, 0, .int .i64 z0), (g8, 1, .int .u64 z1), (w.heap.size, 0, .int .i64 a), (w.heap.size, 1, .int .i64 r), (w.heap.size, 2, .int .i64 n), (w.heap.size, 3, .int .i64 d), (gb, 0, .int .i64 t), (gb, 1, .int .i64 lo), (gb, 2, .int .i64 hi)]) (by kernel_rfl) hHs (fun hHeld0 => ?_)
                refine wpAnyH_take (i := 0) (oi := ⟨some 44, _, _, _, _, _⟩) (v := ?_) rfl (by kernel_rfl) (by kernel_rfl) (by kernel_rfl) (fun _ _ _ h => h) (Or.inl ⟨by rfl, ?_⟩) (by assumption) ?_
                rotate_left
                · intro wq hSw; obtain ⟨⟨qz0, qc0, qf0⟩, ⟨qz1, qc1, qf1⟩, ⟨qz2, qc2, qf2⟩, ⟨qz3, qc3, qf3⟩, ⟨qz4, qc4, qf4⟩, ⟨qz5, qc5, qf5⟩, ⟨qz6, qc6, qf6⟩, ⟨qz7, qc7, qf7⟩, ⟨qz8, qc8, qf8⟩, _⟩ := hSw.2; go_simp; (try with_reducible rfl)
                try simp only [Act.put, List.setIfInBounds_toArray, List.set_cons_zero, List.set_cons_succ]
                refine wpAnyH_take (i := 1) (oi := ⟨some 45, _, _, _, _, _⟩) (v := ?_) rfl (by kernel_rfl) (by kernel_rfl) (by kernel_rfl) (fun _ _ _ h => h) (Or.inl ⟨by rfl, ?_⟩) (by assumption) ?_
                rotate_left
                · intro wq hSw; go_simp; (try with_reducible rfl)
                try simp only [Act.put, List.setIfInBounds_toArray, List.set_cons_zero, List.set_cons_succ]
                refine wpAnyH_take (i := 2) (oi := ⟨some 46, _, _, _, _, _⟩) (v := ?_) rfl (by kernel_rfl) (by kernel_rfl) (by kernel_rfl) (fun _ _ _ h => h) (Or.inl ⟨by rfl, ?_⟩) (by assumption) ?_
                rotate_left
                · intro wq hSw; obtain ⟨⟨qz0, qc0, qf0⟩, ⟨qz1, qc1, qf1⟩, ⟨qz2, qc2, qf2⟩, ⟨qz3, qc3, qf3⟩, ⟨qz4, qc4, qf4⟩, ⟨qz5, qc5, qf5⟩, ⟨qz6, qc6, qf6⟩, ⟨qz7, qc7, qf7⟩, ⟨qz8, qc8, qf8⟩, _⟩ := hSw.2; go_simp; (try with_reducible rfl)
                try simp only [Act.put, List.setIfInBounds_toArray, List.set_cons_zero, List.set_cons_succ]
                refine wpAnyH_take (i := 3) (oi := ⟨some 47, _, _, _, _, _⟩) (v := ?_) rfl (by kernel_rfl) (by kernel_rfl) (by kernel_rfl) (fun _ _ _ h => h) (Or.inl ⟨by rfl, ?_⟩) (by assumption) ?_
                rotate_left
                · intro wq hSw; go_simp; (try with_reducible rfl)
                try simp only [Act.put, List.setIfInBounds_toArray, List.set_cons_zero, List.set_cons_succ]
                refine wpAnyH_take (i := 4) (oi := ⟨some 48, _, _, _, _, _⟩) (v := ?_) rfl (by kernel_rfl) (by kernel_rfl) (by kernel_rfl) (fun _ _ _ h => h) (Or.inl ⟨by rfl, ?_⟩) (by assumption) ?_
                rotate_left
                · intro wq hSw; obtain ⟨⟨qz0, qc0, qf0⟩, ⟨qz1, qc1, qf1⟩, ⟨qz2, qc2, qf2⟩, ⟨qz3, qc3, qf3⟩, ⟨qz4, qc4, qf4⟩, ⟨qz5, qc5, qf5⟩, ⟨qz6, qc6, qf6⟩, ⟨qz7, qc7, qf7⟩, ⟨qz8, qc8, qf8⟩, _⟩ := hSw.2; go_simp; (try with_reducible rfl)
                try simp only [Act.put, List.setIfInBounds_toArray, List.set_cons_zero, List.set_cons_succ]
                refine wpAnyH_ready (rs := [5]) (by kernel_rfl) (by simp) ?_
                refine AllReadyH.cons (o := ⟨some 49, _, _, _, _, _⟩) rfl (fun K hK => ?_) AllReadyH.nil
                go_simp
                (first | ((with_reducible refine (M6.out _).mono ?_); rintro e wa ⟨rfl, hb⟩) | ((with_reducible refine (M7.out _).mono ?_); rintro e wb ⟨rfl, hb⟩) | ((with_reducible refine (M8.out _).mono ?_); rintro e wd ⟨rfl, hb⟩) | ((with_reducible refine (M9.out _).mono ?_); rintro e we ⟨rfl, hb⟩))
                refine hK.out _ _ (hHeld0.next hb) (fun hHeld1 => ?_)
                clear hK K
                try clear hb
                try simp only [Act.put, List.setIfInBounds_toArray, List.set_cons_zero, List.set_cons_succ]
                refine wpAnyH_ready (rs := [6]) (by kernel_rfl) (by simp) ?_
                refine AllReadyH.cons (o := ⟨some 50, _, _, _, _, _⟩) rfl (fun K hK => ?_) AllReadyH.nil
                go_simp
                (first | ((with_reducible refine (M6.out _).mono ?_); rintro e wa ⟨rfl, hb⟩) | ((with_reducible refine (M7.out _).mono ?_); rintro e wb ⟨rfl, hb⟩) | ((with_reducible refine (M8.out _).mono ?_); rintro e wd ⟨rfl, hb⟩) | ((with_reducible refine (M9.out _).mono ?_); rintro e we ⟨rfl, hb⟩))
                refine hK.out _ _ (hHeld1.next hb) (fun hHeld2 => ?_)
                clear hK K
                try clear hb
                try simp only [Act.put, List.setIfInBounds_toArray, List.set_cons_zero, List.set_cons_succ]
                refine wpAnyH_take (i := 7) (oi := ⟨some 51, _, _, _, _, _⟩) (v := ?_) rfl (by kernel_rfl) (by kernel_rfl) (by kernel_rfl) (fun _ _ _ h => h) (Or.inl ⟨by rfl, ?_⟩) (by assumption) ?_
                rotate_left
                · intro wq hSw; go_simp; (try with_reducible rfl)
                try simp only [Act.put, List.setIfInBounds_toArray, List.set_cons_zero, List.set_cons_succ]
                refine wpAnyH_take (i := 8) (oi := ⟨some 52, _, _, _, _, _⟩) (v := ?_) rfl (by kernel_rfl) (by kernel_rfl) (by kernel_rfl) (fun _ _ _ h => h) (Or.inl ⟨by rfl, ?_⟩) (by assumption) ?_
                rotate_left
                · intro wq hSw; go_simp; (try with_reducible rfl)
                try simp only [Act.put, List.setIfInBounds_toArray, List.set_cons_zero, List.set_cons_succ]
                refine wpAnyH_take (i := 9) (oi := ⟨some 53, _, _, _, _, _⟩) (v := ?_) rfl (by kernel_rfl) (by kernel_rfl) (by kernel_rfl) (fun _ _ _ h => h) (Or.inl ⟨by rfl, ?_⟩) (by assumption) ?_
                rotate_left
                · intro wq hSw; obtain ⟨⟨qz0, qc0, qf0⟩, ⟨qz1, qc1, qf1⟩, ⟨qz2, qc2, qf2⟩, ⟨qz3, qc3, qf3⟩, ⟨qz4, qc4, qf4⟩, ⟨qz5, qc5, qf5⟩, ⟨qz6, qc6, qf6⟩, ⟨qz7, qc7, qf7⟩, ⟨qz8, qc8, qf8⟩, _⟩ := hSw.2; go_simp; (try with_reducible rfl)
                try simp only [Act.put, List.setIfInBounds_toArray, List.set_cons_zero, List.set_cons_succ]
                refine wpAnyH_take (i := 10) (oi := ⟨some 54, _, _, _, _, _⟩) (v := ?_) rfl (by kernel_rfl) (by kernel_rfl) (by kernel_rfl) (fun _ _ _ h => h) (Or.inl ⟨by rfl, ?_⟩) (by assumption) ?_
                rotate_left
                · intro wq hSw; go_simp; (try with_reducible rfl)
                try simp only [Act.put, List.setIfInBounds_toArray, List.set_cons_zero, List.set_cons_succ]
                refine wpAnyH_take (i := 11) (oi := ⟨some 55, _, _, _, _, _⟩) (v := ?_) rfl (by kernel_rfl) (by kernel_rfl) (by kernel_rfl) (fun _ _ _ h => h) (Or.inl ⟨by rfl, ?_⟩) (by assumption) ?_
                rotate_left
                · intro wq hSw; obtain ⟨⟨qz0, qc0, qf0⟩, ⟨qz1, qc1, qf1⟩, ⟨qz2, qc2, qf2⟩, ⟨qz3, qc3, qf3⟩, ⟨qz4, qc4, qf4⟩, ⟨qz5, qc5, qf5⟩, ⟨qz6, qc6, qf6⟩, ⟨qz7, qc7, qf7⟩, ⟨qz8, qc8, qf8⟩, _⟩ := hSw.2; go_simp; (try with_reducible rfl)
                try simp only [Act.put, List.setIfInBounds_toArray, List.set_cons_zero, List.set_cons_succ]
                refine wpAnyH_take (i := 12) (oi := ⟨some 56, _, _, _, _, _⟩) (v := ?_) rfl (by kernel_rfl) (by kernel_rfl) (by kernel_rfl) (fun _ _ _ h => h) (Or.inl ⟨by rfl, ?_⟩) (by assumption) ?_
                rotate_left
                · intro wq hSw; go_simp; (try with_reducible rfl)
                try simp only [Act.put, List.setIfInBounds_toArray, List.set_cons_zero, List.set_cons_succ]
                refine wpAnyH_take (i := 13) (oi := ⟨some 57, _, _, _, _, _⟩) (v := ?_) rfl (by kernel_rfl) (by kernel_rfl) (by kernel_rfl) (fun _ _ _ h => h) (Or.inl ⟨by rfl, ?_⟩) (by assumption) ?_
                rotate_left
                · intro wq hSw; obtain ⟨⟨qz0, qc0, qf0⟩, ⟨qz1, qc1, qf1⟩, ⟨qz2, qc2, qf2⟩, ⟨qz3, qc3, qf3⟩, ⟨qz4, qc4, qf4⟩, ⟨qz5, qc5, qf5⟩, ⟨qz6, qc6, qf6⟩, ⟨qz7, qc7, qf7⟩, ⟨qz8, qc8, qf8⟩, _⟩ := hSw.2; go_simp; (try with_reducible rfl)
                try simp only [Act.put, List.setIfInBounds_toArray, List.set_cons_zero, List.set_cons_succ]
                refine wpAnyH_ready (rs := [14]) (by kernel_rfl) (by simp) ?_
                refine AllReadyH.cons (o := ⟨some 58, _, _, _, _, _⟩) rfl (fun K hK => ?_) AllReadyH.nil
                go_simp
                (first | ((with_reducible refine (M6.out _).mono ?_); rintro e wa ⟨rfl, hb⟩) | ((with_reducible refine (M7.out _).mono ?_); rintro e wb ⟨rfl, hb⟩) | ((with_reducible refine (M8.out _).mono ?_); rintro e wd ⟨rfl, hb⟩) | ((with_reducible refine (M9.out _).mono ?_); rintro e we ⟨rfl, hb⟩))
                refine hK.out _ _ (hHeld2.next hb) (fun hHeld3 => ?_)
                clear hK K
                try clear hb
                try simp only [Act.put, List.setIfInBounds_toArray, List.set_cons_zero, List.set_cons_succ]
                refine wpAnyH_ready (rs := [15]) (by kernel_rfl) (by simp) ?_
                refine AllReadyH.cons (o := ⟨some 59, _, _, _, _, _⟩) rfl (fun K hK => ?_) AllReadyH.nil
                go_simp
                (first | ((with_reducible refine (M6.out _).mono ?_); rintro e wa ⟨rfl, hb⟩) | ((with_reducible refine (M7.out _).mono ?_); rintro e wb ⟨rfl, hb⟩) | ((with_reducible refine (M8.out _).mono ?_); rintro e wd ⟨rfl, hb⟩) | ((with_reducible refine (M9.out _).mono ?_); rintro e we ⟨rfl, hb⟩))
                refine hK.out _ _ (hHeld3.next hb) (fun hHeld4 => ?_)
                clear hK K
                try clear hb
                try simp only [Act.put, List.setIfInBounds_toArray, List.set_cons_zero, List.set_cons_succ]
                refine wpAnyH_take (i := 16) (oi := ⟨some 60, _, _, _, _, _⟩) (v := ?_) rfl (by kernel_rfl) (by kernel_rfl) (by kernel_rfl) (fun _ _ _ h => h) (Or.inl ⟨by rfl, ?_⟩) (by assumption) ?_
                rotate_left
                · intro wq hSw; go_simp; (try with_reducible rfl)
                try simp only [Act.put, List.setIfInBounds_toArray, List.set_cons_zero, List.set_cons_succ]
                refine wpAnyH_take (i := 17) (oi := ⟨some 61, _, _, _, _, _⟩) (v := ?_) rfl (by kernel_rfl) (by kernel_rfl) (by kernel_rfl) (fun _ _ _ h => h) (Or.inl ⟨by rfl, ?_⟩) (by assumption) ?_
                rotate_left
                · intro wq hSw; go_simp; (try with_reducible rfl)
                try simp only [Act.put, List.setIfInBounds_toArray, List.set_cons_zero, List.set_cons_succ]
                refine wpAnyH_done (by kernel_rfl) ?_ _
                have hHeld := hHeld4
                obtain ⟨⟨kz0, kc0, kf0⟩, ⟨kz1, kc1, kf1⟩, ⟨kz2, kc2, kf2⟩, ⟨kz3, kc3, kf3⟩, ⟨kz4, kc4, kf4⟩, ⟨kz5, kc5, kf5⟩, ⟨kz6, kc6, kf6⟩, ⟨kz7, kc7, kf7⟩, ⟨kz8, kc8, kf8⟩, _⟩ := hHeld.2
                all_goals
                  go_wp2_with fail
                  go_roundw
                  case rel => exact ⟨k + 1, by simp, gk, Lib.hid (ray_more hA.out HX.out (by rw [← HT0.out]; exact RN.out)), Lib.hid ⟨hHeld.1, hHeld.2.2.2.1, hHeld.2.2.2.2.1, hHeld.2.2.2.2.2.1, hHeld.2.2.2.2.2.2.1, trivial⟩⟩
                  case measure => exact index_less gk
    · have hkk : k = l.length := by omega
      have E : Hid (rayG a r n d l = true) := Lib.hid (by have := hA.out; rw [hkk, List.take_length] at this; exact this)
      have i1 : ¬ (k : Int) < (l.length : Int) := by omega
      clear hA hkk
      go_wp2_with fail
      go_ret
      exact ⟨by rw [E.out]; rfl, hB.out.1⟩
end Go.Proofs.Ytmdhgiaaofdjiaa.P10
