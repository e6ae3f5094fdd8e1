/-
  Layer 10: slide: the height of the lowest line. Conditions: those written at each fact.
-/
import Derived.Maps.RangeWalk
import Derived.Test.YtoephkglpbophaaGreatSlF
import Derived.Test.YtoephkglpbophaaGreatKitR
namespace Go.Proofs.YtoephkglpbophaaGreat.P10
open Go.RowKit Go.Shelf Go.Proofs.YtoephkglpbophaaGreat.P8

theorem sub_fits (x y : Int) (hx : Fits x) (hy : Fits y) (f : Fits (x - y)) (w : World) : Calls Tryz.prog 81 #[wideV (rhi x) (rlo x), wideV (rhi y) (rlo y)] w (Ret w (.tuple #[wideV (rhi (x - y)) (rlo (x - y)), .int .i64 0])) := by
  have h := sub_any (rhi x) (rlo x) (rhi y) (rlo y) (rhi_i64 _) (rlo_u64 _) (rhi_i64 _) (rlo_u64 _) w
  rw [val_r hx, val_r hy] at h
  have e : rcode (x - y) = 0 := by unfold rcode; rw [if_pos f]
  rw [show (.tuple #[wideV (rhi (x - y)) (rlo (x - y)), .int .i64 0] : Value) = roomV (x - y) by unfold roomV; rw [e]]
  exact h
/-- Bands from t0 on, of which the slope n / d may be asked. -/
structure CapOk (t0 n d : Int) (b : Bd) : Prop where
  ok : BdOk b
  from0 : t0 ≤ b.t
  t0 : 0 ≤ t0
  sl : slopeB n d = true
theorem cap_fits {t0 n d : Int} {b : Bd} (h : CapOk t0 n d b) : I64 b.lo ∧ I64 d ∧ I64 n ∧ I64 (b.t - t0) ∧ Fits (b.lo * d) ∧ Fits (n * (b.t - t0)) ∧ Fits (capC t0 n d b) := by
  obtain ⟨⟨h1, h2, h3, h4, h5⟩, h6, h7, h8⟩ := h
  obtain ⟨s1, s2, s3, s4⟩ := (slopeB_iff _ _).1 h8
  have m1 := mul_bound (x := b.lo) (y := d) (X := 2305844108725321728) (Y := 281474976710656) (by omega) (by omega)
  have m2 := mul_bound (x := n) (y := b.t - t0) (X := 4611688217450643456) (Y := 281474976710656) (by omega) (by omega)
  refine ⟨by unfold I64; omega, by unfold I64; omega, by unfold I64; omega, by unfold I64; omega, ?_, ?_, ?_⟩
  · unfold Fits; omega
  · unfold Fits; omega
  · unfold Fits capC; omega
theorem lowF_snoc (t0 n d : Int) (b : Bd) : ∀ (l : List Bd) (m : Int), lowF t0 n d m (l ++ [b]) = if lowF t0 n d m l < capC t0 n d b then capC t0 n d b else lowF t0 n d m l
  | [], _ => rfl
  | x :: l, m => by
    rw [List.cons_append, lowF, lowF, lowF_snoc t0 n d b l]
theorem lowC_one {t0 n d : Int} {l : List Bd} {b : Bd} (h : l[0]? = some b) : lowC t0 n d (l.take 1) = capC t0 n d b := by
  cases l with
  | nil => simp at h
  | cons x l => simp at h; subst h; rfl
theorem lowC_more {t0 n d : Int} {l : List Bd} {k : Nat} {b : Bd} (h : l[k]? = some b) (hk : k ≠ 0) : lowC t0 n d (l.take (k + 1)) = if lowC t0 n d (l.take k) < capC t0 n d b then capC t0 n d b else lowC t0 n d (l.take k) := by
  cases l with
  | nil => simp at h
  | cons x l =>
    obtain ⟨j, rfl⟩ : ∃ j, k = j + 1 := ⟨k - 1, by omega⟩
    simp only [List.getElem?_cons_succ] at h
    simp only [List.take_succ_cons]
    rw [List.take_add_one, h]
    show lowF t0 n d (capC t0 n d x) (l.take j ++ [b]) = _
    rw [lowF_snoc]
    rfl
theorem wide_zero : rhi 0 = 0 ∧ rlo 0 = 0 := by
  have h1 := rhi_val (hi := 0) (lo := 0) (by unfold I64; omega) (by unfold U64; omega)
  have h2 := rlo_val (hi := 0) (lo := 0) (by unfold I64; omega) (by unfold U64; omega)
  have e : val 0 0 = 0 := by unfold val; rfl
  rw [e] at h1 h2
  exact ⟨h1, h2⟩
theorem low_fits {t0 n d : Int} {l : List Bd} (h : ∀ b ∈ l, CapOk t0 n d b) : Fits (lowC t0 n d l) := by
  cases l with
  | nil =>
    show Fits 0
    unfold Fits
    omega
  | cons x l =>
    obtain ⟨b, hb, e⟩ := lowC_is (t0 := t0) (n := n) (d := d) (l := x :: l) (by simp)
    rw [e]
    exact (cap_fits (h b hb)).2.2.2.2.2.2
theorem cmpI_pos (x y : Int) : decide (cmpI x y > 0) = decide (y < x) := by
  unfold cmpI
  by_cases g : x = y
  · rw [if_pos g]; simp [g]
  · rw [if_neg g]
    by_cases g2 : x < y
    · rw [if_pos g2, decide_eq_false (by omega), decide_eq_false (by omega)]
    · rw [if_neg g2, decide_eq_true (by omega), decide_eq_true (by omega)]
set_option maxRecDepth 100000 in
set_option maxHeartbeats 4000000 in
theorem height_any (s : Sl) (n d t0 lo0 hi0 : Int) (m : List Bd) (hl : ((⟨t0, lo0, hi0⟩ : Bd) :: m).length ≤ 1000000) (hC : ∀ b ∈ (⟨t0, lo0, hi0⟩ : Bd) :: m, CapOk t0 n d b) (bb off c : Nat) (w : World) (h : ReadsD w (.slice (some ⟨bb, off, none⟩) ((⟨t0, lo0, hi0⟩ : Bd) :: m).length c) ((⟨t0, lo0, hi0⟩ : Bd) :: m)) :
    Calls Tryz.prog 55 #[fitV s (.slice (some ⟨bb, off, none⟩) ((⟨t0, lo0, hi0⟩ : Bd) :: m).length c), slV n d] w (Ret w (wz (lowC t0 n d ((⟨t0, lo0, hi0⟩ : Bd) :: m)))) := by
  obtain ⟨_, _, e', hc, hk⟩ := h
  cases e'
  obtain ⟨_, _, e', hbw, hp0, _⟩ := hk 0 _ rfl
  cases e'
  simp only [Nat.zero_mul, Nat.add_zero] at hp0
  have HP := Lib.hid hp0
  have HK := Lib.hid hk
  have HC := Lib.hid hC
  have i3 : (0 : Int) < (((⟨t0, lo0, hi0⟩ : Bd) :: m).length : Int) := by simp only [List.length_cons]; omega
  have i4 : 0 < ((⟨t0, lo0, hi0⟩ : Bd) :: m).length := by simp
  have hf0 : ((⟨t0, lo0, hi0⟩ : Bd) :: m)[0]? = some ⟨t0, lo0, hi0⟩ := rfl
  have HF0 := Lib.hid hf0
  clear hk hC hp0 hf0
  generalize (⟨t0, lo0, hi0⟩ : Bd) :: m = l at *
  obtain ⟨sa, sb, sc, sd⟩ := s
  go_enter Tryz.func55, Tryz.ntmps55
  have hH0 : Hid (Keeps w [(w.heap.size, 0, .int .i64 sa), (w.heap.size, 1, .int .i64 sb), (w.heap.size, 2, .int .i64 sc), (w.heap.size, 3, .int .i64 sd), (w.heap.size, 4, .slice (some ⟨bb, off, none⟩) l.length c), (w.heap.size + 1, 0, .int .i64 n), (w.heap.size + 1, 1, .int .i64 d), (w.heap.size + 2, 0, .int .i64 0), (w.heap.size + 2, 1, .int .u64 0), (w.heap.size + 3, 0, .int .i64 (rhi 0)), (w.heap.size + 3, 1, .int .u64 (rlo 0))] ((((w.alloc (.cells #[.int .i64 sa, .int .i64 sb, .int .i64 sc, .int .i64 sd, .slice (some ⟨bb, off, none⟩) l.length c] 52)).alloc (.cells #[.int .i64 n, .int .i64 d] 32)).alloc (.cells #[.int .i64 0, .int .u64 0] 102)).alloc (.cells #[.int .i64 0, .int .u64 0] 102))) := by
    refine Lib.hid ⟨((((Below.refl _ w).alloc (Nat.le_refl _) _).alloc (by simp) _).alloc (by simp; omega) _).alloc (by simp; omega) _, ?_⟩
    rw [wide_zero.1, wide_zero.2]
    simp [Cells, go_sem]
  go_wp2_with fail
  go_loopw [13] (fun i wr => ∃ (k : Nat), i = .int .i64 k ∧ k ≤ l.length ∧ Hid (Keeps w [(w.heap.size, 0, .int .i64 sa), (w.heap.size, 1, .int .i64 sb), (w.heap.size, 2, .int .i64 sc), (w.heap.size, 3, .int .i64 sd), (w.heap.size, 4, .slice (some ⟨bb, off, none⟩) l.length c), (w.heap.size + 1, 0, .int .i64 n), (w.heap.size + 1, 1, .int .i64 d), (w.heap.size + 2, 0, .int .i64 0), (w.heap.size + 2, 1, .int .u64 0), (w.heap.size + 3, 0, .int .i64 (rhi (lowC t0 n d (l.take k)))), (w.heap.size + 3, 1, .int .u64 (rlo (lowC t0 n d (l.take k))))] wr)) (fun i _ => l.length - (intOf i).toNat)
  case atStart => exact ⟨0, rfl, Nat.zero_le _, hH0⟩
  case round =>
    obtain ⟨k, rfl, hkl, hB⟩ := hrel
    clear hH0
    by_cases gk : k < l.length
    · obtain ⟨⟨t, lo, hi⟩, hx⟩ : ∃ s, l[k]? = some s := ⟨_, List.getElem?_eq_getElem gk⟩
      obtain ⟨_, _, e1, _, hc1, hc2, hc3⟩ := HK.out k _ hx
      cases e1
      have c1 := (hB.out.1.cell (p := ⟨bb, off + k * 3, none⟩) hbw).trans hc1
      have c2 := (hB.out.1.cell (p := ⟨bb, off + k * 3 + 1, none⟩) hbw).trans hc2
      have c3 := (hB.out.1.cell (p := ⟨bb, off + k * 3 + 2, none⟩) hbw).trans hc3
      simp only at c1 c2 c3
      have i1 : (k : Int) < (l.length : Int) := by omega
      have i0 : (0 : Int) ≤ (k : Int) := by omega
      have hcap := HC.out _ (List.mem_of_getElem? hx)
      obtain ⟨j1, j2, j3, j4, g1, g2, g3⟩ := cap_fits hcap
      simp only at j1 j4 g1 g2
      have M1 := Lib.hid (fun W => mul_any lo d j1 j2 W)
      have M2 := Lib.hid (fun W => mul_any n (t - t0) j3 j4 W)
      have SB := Lib.hid (fun W => sub_fits (lo * d) (n * (t - t0)) g1 g2 g3 W)
      have e1 : IntKind.i64.wrap (t - t0) = t - t0 := by rw [IntKind.wrap_i64]; unfold I64 at j4; omega
      have e2 : wrap64 (t - t0) = t - t0 := by unfold I64 at j4; exact i64_keeps (by omega) (by omega)
      have HX := Lib.hid (And.intro hx (And.intro hcap g3))
      obtain ⟨C, hC'⟩ : ∃ C, C = capC t0 n d ⟨t, lo, hi⟩ := ⟨_, rfl⟩
      have hC2 : C = lo * d - n * (t - t0) := hC'
      rw [← hC2] at SB
      have HCC := Lib.hid hC'
      obtain ⟨M, hM⟩ : ∃ M, M = lowC t0 n d (l.take k) := ⟨_, rfl⟩
      have HMM := Lib.hid hM
      have hB2 := hB.out
      rw [← hM] at hB2
      obtain ⟨m0, hm0⟩ : ∃ m0, m0 = rhi M := ⟨_, rfl⟩
      obtain ⟨m1, hm1⟩ : ∃ m1, m1 = rlo M := ⟨_, rfl⟩
      rw [← hm0, ← hm1] at hB2
      have HM := Lib.hid (And.intro hm0 hm1)
      have hHeld := (hB2.alloc (.cells #[.int .i64 t, .int .i64 lo, .int .i64 hi] 46)).app (newK3 (hB2.alloc (.cells #[.int .i64 t, .int .i64 lo, .int .i64 hi] 46)))
      have HH := Lib.hid hHeld
      clear hc1 hc2 hc3 hx hB hcap hHeld j1 j2 j3 j4 g1 g2 g3 hC' hC2 hM hB2 hm0 hm1
      generalize rhi (lo * d) = x0 at *
      generalize rlo (lo * d) = x1 at *
      generalize rhi (n * (t - t0)) = y0 at *
      generalize rlo (n * (t - t0)) = y1 at *
      obtain ⟨z0, hz0⟩ : ∃ z0, z0 = rhi C := ⟨_, rfl⟩
      obtain ⟨z1, hz1⟩ : ∃ z1, z1 = rlo C := ⟨_, rfl⟩
      rw [← hz0, ← hz1] at SB
      have HZ := Lib.hid (And.intro hz0 hz1)
      clear hz0 hz1
      go_upto_region 5 with (fail)
      have hHs : Keeps w [(w.heap.size, 0, .int .i64 sa), (w.heap.size, 1, .int .i64 sb), (w.heap.size, 2, .int .i64 sc), (w.heap.size, 3, .int .i64 sd), (w.heap.size, 4, .slice (some ⟨bb, off, none⟩) l.length c), (w.heap.size + 1, 0, .int .i64 n), (w.heap.size + 1, 1, .int .i64 d), (w.heap.size + 2, 0, .int .i64 0), (w.heap.size + 2, 1, .int .u64 0), (w.heap.size + 3, 0, .int .i64 m0), (w.heap.size + 3, 1, .int .u64 m1), (wr.heap.size, 0, .int .i64 t), (wr.heap.size, 1, .int .i64 lo), (wr.heap.size, 2, .int .i64 hi)] (wr.alloc (.cells #[.int .i64 t, .int .i64 lo, .int .i64 hi] 46)) := HH.out
      generalize wr.alloc (.cells #[.int .i64 t, .int .i64 lo, .int .i64 hi] 46) = wi at hHs ⊢
      clear HH
      go_cut [8] (fun s8 wx => ∃ g : Nat, s8 = .pointer (some ⟨g, 0, none⟩) ∧ Keeps w [(g, 0, .int .i64 z0), (g, 1, .int .u64 z1), (w.heap.size, 0, .int .i64 sa), (w.heap.size, 1, .int .i64 sb), (w.heap.size, 2, .int .i64 sc), (w.heap.size, 3, .int .i64 sd), (w.heap.size, 4, .slice (some ⟨bb, off, none⟩) l.length c), (w.heap.size + 1, 0, .int .i64 n), (w.heap.size + 1, 1, .int .i64 d), (w.heap.size + 2, 0, .int .i64 0), (w.heap.size + 2, 1, .int .u64 0), (w.heap.size + 3, 0, .int .i64 m0), (w.heap.size + 3, 1, .int .u64 m1)] wx)
      case first =>
        refine region_keeps (w0 := w) (L := [(w.heap.size, 0, .int .i64 sa), (w.heap.size, 1, .int .i64 sb), (w.heap.size, 2, .int .i64 sc), (w.heap.size, 3, .int .i64 sd), (w.heap.size, 4, .slice (some ⟨bb, off, none⟩) l.length c), (w.heap.size + 1, 0, .int .i64 n), (w.heap.size + 1, 1, .int .i64 d), (w.heap.size + 2, 0, .int .i64 0), (w.heap.size + 2, 1, .int .u64 0), (w.heap.size + 3, 0, .int .i64 m0), (w.heap.size + 3, 1, .int .u64 m1), (wr.heap.size, 0, .int .i64 t), (wr.heap.size, 1, .int .i64 lo), (wr.heap.size, 2, .int .i64 hi)]) (by kernel_rfl) hHs (fun hHeld0 => ?_)
        refine wpAnyH_take (i := 0) (oi := ⟨some 19, _, _, _, _, _⟩) (v := ?_) rfl (by kernel_rfl) (by kernel_rfl) (by kernel_rfl) (fun _ _ _ h => h) (Or.inl ⟨by rfl, ?_⟩) (by assumption) ?_
        rotate_left
        · intro wq hSw; go_simp; (try with_reducible rfl)
        try go_frame
        refine wpAnyH_take (i := 1) (oi := ⟨some 20, _, _, _, _, _⟩) (v := ?_) rfl (by kernel_rfl) (by kernel_rfl) (by kernel_rfl) (fun _ _ _ h => h) (Or.inl ⟨by rfl, ?_⟩) (by assumption) ?_
        rotate_left
        · intro wq hSw; obtain ⟨⟨qz0, qc0, qf0⟩, ⟨qz1, qc1, qf1⟩, ⟨qz2, qc2, qf2⟩, ⟨qz3, qc3, qf3⟩, ⟨qz4, qc4, qf4⟩, ⟨qz5, qc5, qf5⟩, ⟨qz6, qc6, qf6⟩, ⟨qz7, qc7, qf7⟩, ⟨qz8, qc8, qf8⟩, ⟨qz9, qc9, qf9⟩, ⟨qz10, qc10, qf10⟩, ⟨qz11, qc11, qf11⟩, ⟨qz12, qc12, qf12⟩, ⟨qz13, qc13, qf13⟩, _⟩ := hSw.2; have hp4 := (hSw.1.cell (p := ⟨bb, off, none⟩) hbw).trans HP.out; go_simp; (try with_reducible rfl)
        try go_frame
        refine wpAnyH_take (i := 2) (oi := ⟨some 21, _, _, _, _, _⟩) (v := ?_) rfl (by kernel_rfl) (by kernel_rfl) (by kernel_rfl) (fun _ _ _ h => h) (Or.inl ⟨by rfl, ?_⟩) (by assumption) ?_
        rotate_left
        · intro wq hSw; go_simp; (try with_reducible rfl)
        try go_frame
        refine wpAnyH_take (i := 3) (oi := ⟨some 22, _, _, _, _, _⟩) (v := ?_) rfl (by kernel_rfl) (by kernel_rfl) (by kernel_rfl) (fun _ _ _ h => h) (Or.inl ⟨by rfl, ?_⟩) (by assumption) ?_
        rotate_left
        · intro wq hSw; obtain ⟨⟨qz0, qc0, qf0⟩, ⟨qz1, qc1, qf1⟩, ⟨qz2, qc2, qf2⟩, ⟨qz3, qc3, qf3⟩, ⟨qz4, qc4, qf4⟩, ⟨qz5, qc5, qf5⟩, ⟨qz6, qc6, qf6⟩, ⟨qz7, qc7, qf7⟩, ⟨qz8, qc8, qf8⟩, ⟨qz9, qc9, qf9⟩, ⟨qz10, qc10, qf10⟩, ⟨qz11, qc11, qf11⟩, ⟨qz12, qc12, qf12⟩, ⟨qz13, qc13, qf13⟩, _⟩ := hSw.2; have hp4 := (hSw.1.cell (p := ⟨bb, off, none⟩) hbw).trans HP.out; go_simp; (try with_reducible rfl)
        try go_frame
        refine wpAnyH_take (i := 5) (oi := ⟨some 24, _, _, _, _, _⟩) (v := ?_) rfl (by kernel_rfl) (by kernel_rfl) (by kernel_rfl) (fun _ _ _ h => h) (Or.inl ⟨by rfl, ?_⟩) (by assumption) ?_
        rotate_left
        · intro wq hSw; go_simp; (try with_reducible rfl)
        try go_frame
        refine wpAnyH_take (i := 6) (oi := ⟨some 25, _, _, _, _, _⟩) (v := ?_) rfl (by kernel_rfl) (by kernel_rfl) (by kernel_rfl) (fun _ _ _ h => h) (Or.inl ⟨by rfl, ?_⟩) (by assumption) ?_
        rotate_left
        · intro wq hSw; obtain ⟨⟨qz0, qc0, qf0⟩, ⟨qz1, qc1, qf1⟩, ⟨qz2, qc2, qf2⟩, ⟨qz3, qc3, qf3⟩, ⟨qz4, qc4, qf4⟩, ⟨qz5, qc5, qf5⟩, ⟨qz6, qc6, qf6⟩, ⟨qz7, qc7, qf7⟩, ⟨qz8, qc8, qf8⟩, ⟨qz9, qc9, qf9⟩, ⟨qz10, qc10, qf10⟩, ⟨qz11, qc11, qf11⟩, ⟨qz12, qc12, qf12⟩, ⟨qz13, qc13, qf13⟩, _⟩ := hSw.2; have hp4 := (hSw.1.cell (p := ⟨bb, off, none⟩) hbw).trans HP.out; go_simp; (try with_reducible rfl)
        try go_frame
        refine wpAnyH_take (i := 7) (oi := ⟨some 26, _, _, _, _, _⟩) (v := ?_) rfl (by kernel_rfl) (by kernel_rfl) (by kernel_rfl) (fun _ _ _ h => h) (Or.inl ⟨by rfl, ?_⟩) (by assumption) ?_
        rotate_left
        · intro wq hSw; go_simp; (try with_reducible rfl)
        try go_frame
        refine wpAnyH_take (i := 8) (oi := ⟨some 27, _, _, _, _, _⟩) (v := ?_) rfl (by kernel_rfl) (by kernel_rfl) (by kernel_rfl) (fun _ _ _ h => h) (Or.inl ⟨by rfl, ?_⟩) (by assumption) ?_
        rotate_left
        · intro wq hSw; obtain ⟨⟨qz0, qc0, qf0⟩, ⟨qz1, qc1, qf1⟩, ⟨qz2, qc2, qf2⟩, ⟨qz3, qc3, qf3⟩, ⟨qz4, qc4, qf4⟩, ⟨qz5, qc5, qf5⟩, ⟨qz6, qc6, qf6⟩, ⟨qz7, qc7, qf7⟩, ⟨qz8, qc8, qf8⟩, ⟨qz9, qc9, qf9⟩, ⟨qz10, qc10, qf10⟩, ⟨qz11, qc11, qf11⟩, ⟨qz12, qc12, qf12⟩, ⟨qz13, qc13, qf13⟩, _⟩ := hSw.2; have hp4 := (hSw.1.cell (p := ⟨bb, off, none⟩) hbw).trans HP.out; go_simp; (try with_reducible rfl)
        try go_frame
        refine wpAnyH_take (i := 9) (oi := ⟨some 28, _, _, _, _, _⟩) (v := ?_) rfl (by kernel_rfl) (by kernel_rfl) (by kernel_rfl) (fun _ _ _ h => h) (Or.inl ⟨by rfl, ?_⟩) (by assumption) ?_
        rotate_left
        · intro wq hSw; go_simp; (try with_reducible rfl)
        try go_frame
        refine wpAnyH_take (i := 10) (oi := ⟨some 29, _, _, _, _, _⟩) (v := ?_) rfl (by kernel_rfl) (by kernel_rfl) (by kernel_rfl) (fun _ _ _ h => h) (Or.inl ⟨by rfl, ?_⟩) (by assumption) ?_
        rotate_left
        · intro wq hSw; obtain ⟨⟨qz0, qc0, qf0⟩, ⟨qz1, qc1, qf1⟩, ⟨qz2, qc2, qf2⟩, ⟨qz3, qc3, qf3⟩, ⟨qz4, qc4, qf4⟩, ⟨qz5, qc5, qf5⟩, ⟨qz6, qc6, qf6⟩, ⟨qz7, qc7, qf7⟩, ⟨qz8, qc8, qf8⟩, ⟨qz9, qc9, qf9⟩, ⟨qz10, qc10, qf10⟩, ⟨qz11, qc11, qf11⟩, ⟨qz12, qc12, qf12⟩, ⟨qz13, qc13, qf13⟩, _⟩ := hSw.2; have hp4 := (hSw.1.cell (p := ⟨bb, off, none⟩) hbw).trans HP.out; go_simp; (try with_reducible rfl)
        try go_frame
        refine wpAnyH_take (i := 11) (oi := ⟨some 30, _, _, _, _, _⟩) (v := ?_) rfl (by kernel_rfl) (by kernel_rfl) (by kernel_rfl) (fun _ _ _ h => h) (Or.inl ⟨by rfl, ?_⟩) (by assumption) ?_
        rotate_left
        · intro wq hSw; go_simp; (try with_reducible rfl)
        try go_frame
        refine wpAnyH_take (i := 12) (oi := ⟨some 31, _, _, _, _, _⟩) (v := ?_) rfl (by kernel_rfl) (by kernel_rfl) (by kernel_rfl) (fun _ _ _ h => h) (Or.inl ⟨by rfl, ?_⟩) (by assumption) ?_
        rotate_left
        · intro wq hSw; go_simp; (try with_reducible rfl)
        try go_frame
        refine wpAnyH_take (i := 13) (oi := ⟨some 32, _, _, _, _, _⟩) (v := ?_) rfl (by kernel_rfl) (by kernel_rfl) (by kernel_rfl) (fun _ _ _ h => h) (Or.inl ⟨by rfl, ?_⟩) (by assumption) ?_
        rotate_left
        · intro wq hSw; obtain ⟨⟨qz0, qc0, qf0⟩, ⟨qz1, qc1, qf1⟩, ⟨qz2, qc2, qf2⟩, ⟨qz3, qc3, qf3⟩, ⟨qz4, qc4, qf4⟩, ⟨qz5, qc5, qf5⟩, ⟨qz6, qc6, qf6⟩, ⟨qz7, qc7, qf7⟩, ⟨qz8, qc8, qf8⟩, ⟨qz9, qc9, qf9⟩, ⟨qz10, qc10, qf10⟩, ⟨qz11, qc11, qf11⟩, ⟨qz12, qc12, qf12⟩, ⟨qz13, qc13, qf13⟩, _⟩ := hSw.2; have hp4 := (hSw.1.cell (p := ⟨bb, off, none⟩) hbw).trans HP.out; go_simp; (try with_reducible rfl)
        try go_frame
        refine wpAnyH_take (i := 14) (oi := ⟨some 33, _, _, _, _, _⟩) (v := ?_) rfl (by kernel_rfl) (by kernel_rfl) (by kernel_rfl) (fun _ _ _ h => h) (Or.inl ⟨by rfl, ?_⟩) (by assumption) ?_
        rotate_left
        · intro wq hSw; go_simp; (try with_reducible rfl)
        try go_frame
        refine wpAnyH_ready (rs := [4, 20]) (by kernel_rfl) (by simp) ?_
        refine AllReadyH.cons (o := ⟨some 23, _, _, _, _, _⟩) rfl (fun K hK => ?_) ?_
        go_simp
        (first | ((with_reducible refine (M1.out _).mono ?_); rintro e wa ⟨rfl, hb⟩) | ((try rw [e1]); (try rw [e2]); (with_reducible refine (M2.out _).mono ?_); rintro e wb ⟨rfl, hb⟩) | ((with_reducible refine (SB.out _).mono ?_); rintro e wc ⟨rfl, hb⟩))
        refine hK.out _ _ (hHeld0.next hb) (fun hHeld1 => ?_)
        clear hK K
        try clear hb
        try go_frame
        refine wpAnyH_ready (rs := [15, 20]) (by kernel_rfl) (by simp) ?_
        refine AllReadyH.cons (o := ⟨some 34, _, _, _, _, _⟩) rfl (fun K hK => ?_) ?_
        go_simp
        (first | ((with_reducible refine (M1.out _).mono ?_); rintro e wa ⟨rfl, hb⟩) | ((try rw [e1]); (try rw [e2]); (with_reducible refine (M2.out _).mono ?_); rintro e wb ⟨rfl, hb⟩) | ((with_reducible refine (SB.out _).mono ?_); rintro e wc ⟨rfl, hb⟩))
        refine hK.out _ _ (hHeld1.next hb) (fun hHeld2 => ?_)
        clear hK K
        try clear hb
        try go_frame
        refine wpAnyH_ready (rs := [16, 20]) (by kernel_rfl) (by simp) ?_
        refine AllReadyH.cons (o := ⟨some 35, _, _, _, _, _⟩) rfl (fun K hK => ?_) ?_
        go_simp
        (first | ((with_reducible refine (M1.out _).mono ?_); rintro e wa ⟨rfl, hb⟩) | ((try rw [e1]); (try rw [e2]); (with_reducible refine (M2.out _).mono ?_); rintro e wb ⟨rfl, hb⟩) | ((with_reducible refine (SB.out _).mono ?_); rintro e wc ⟨rfl, hb⟩))
        refine hK.out _ _ (hHeld2.next hb) (fun hHeld3 => ?_)
        clear hK K
        try clear hb
        try go_frame
        refine wpAnyH_take (i := 17) (oi := ⟨some 18, _, _, _, _, _⟩) (v := ?_) rfl (by kernel_rfl) (by kernel_rfl) (by kernel_rfl) (fun _ _ _ h => h) (Or.inl ⟨by rfl, ?_⟩) (by assumption) ?_
        rotate_left
        · intro wq hSw; go_simp; (try with_reducible rfl)
        try go_frame
        refine wpAnyH_take (i := 18) (oi := ⟨some 36, _, _, _, _, _⟩) (v := ?_) rfl (by kernel_rfl) (by kernel_rfl) (by kernel_rfl) (fun _ _ _ h => h) (Or.inl ⟨by rfl, ?_⟩) (by assumption) ?_
        rotate_left
        · intro wq hSw; go_simp; (try with_reducible rfl)
        try go_frame
        refine wpAnyH_take (i := 19) (oi := ⟨some 37, _, _, _, _, _⟩) (v := ?_) rfl (by kernel_rfl) (by kernel_rfl) (by kernel_rfl) (fun _ _ _ h => h) (Or.inl ⟨by rfl, ?_⟩) (by assumption) ?_
        rotate_left
        · intro wq hSw; go_simp; (try with_reducible rfl)
        try go_frame
        refine wpAnyH_ready (rs := [20]) (by kernel_rfl) (by simp) ?_
        refine AllReadyH.cons (o := ⟨some 8, _, _, _, _, _⟩) rfl (fun K hK => ?_) AllReadyH.nil
        have lo8 := hHeld3.1.size
        obtain ⟨⟨a8_z0, a8_c0, a8_f0⟩, ⟨a8_z1, a8_c1, a8_f1⟩, ⟨a8_z2, a8_c2, a8_f2⟩, ⟨a8_z3, a8_c3, a8_f3⟩, ⟨a8_z4, a8_c4, a8_f4⟩, ⟨a8_z5, a8_c5, a8_f5⟩, ⟨a8_z6, a8_c6, a8_f6⟩, ⟨a8_z7, a8_c7, a8_f7⟩, ⟨a8_z8, a8_c8, a8_f8⟩, ⟨a8_z9, a8_c9, a8_f9⟩, ⟨a8_z10, a8_c10, a8_f10⟩, ⟨a8_z11, a8_c11, a8_f11⟩, ⟨a8_z12, a8_c12, a8_f12⟩, ⟨a8_z13, a8_c13, a8_f13⟩, _⟩ := hHeld3.2
        (try simp at lo8); (try simp at a8_z0); (try simp at a8_z1); (try simp at a8_z2); (try simp at a8_z3); (try simp at a8_z4); (try simp at a8_z5); (try simp at a8_z6); (try simp at a8_z7); (try simp at a8_z8); (try simp at a8_z9); (try simp at a8_z10); (try simp at a8_z11); (try simp at a8_z12); (try simp at a8_z13)
        go_simp
        refine hK.out _ _ (by first | exact hHeld3.alloc _ | exact (hHeld3.alloc _).drew) (fun hHeld4 => ?_)
        first | have hS8 := newK2 hHeld4 | have hS8 := newK2d hHeld4
        clear hK K
        try clear hb
        try go_frame
        generalize hGWA1 : World.alloc wc (.cells #[.int .i64 0, .int .u64 0] 102) = WA1 at *
        clear hGWA1
        refine wpAnyH_ready (rs := [21]) (by kernel_rfl) (by simp) ?_
        refine AllReadyH.cons (o := ⟨none, _, _, _, _, _⟩) rfl (fun K hK => ?_) AllReadyH.nil
        obtain ⟨⟨s8z0, s8c0, s8f0⟩, ⟨s8z1, s8c1, s8f1⟩, _⟩ := hS8.2
        go_simp
        refine hK.out _ _ (by (repeat (first | (with_reducible exact hHeld4) | (refine Keeps.set ?_ (by simp <;> omega) (by simp <;> omega) _)))) (fun hHeld5 => ?_)
        replace hS8 := hHeld5.add2 s8z0 s8c0 s8f0 s8c1 s8f1
        clear s8z0 s8c0 s8f0 s8z1 s8c1 s8f1
        clear hK K
        try clear hb
        try go_frame
        generalize hGWA2 : World.setCell (World.setCell WA1 ⟨wc.heap.size, 0, none⟩ (.int .i64 z0)) ⟨wc.heap.size, 1, none⟩ (.int .u64 z1) = WA2 at *
        clear hGWA2
        refine wpAnyH_take (i := 22) (oi := ⟨some 9, _, _, _, _, _⟩) (v := ?_) rfl (by kernel_rfl) (by kernel_rfl) (by kernel_rfl) (fun _ _ _ h => h) (Or.inl ⟨by rfl, ?_⟩) (by assumption) ?_
        rotate_left
        · intro wq hSw; go_simp; (try with_reducible rfl)
        try go_frame
        refine wpAnyH_done (by kernel_rfl) ?_ _
        have hHeld := hHeld5
        rotate_left 1
        refine AllReadyH.cons (o := ⟨some 8, _, _, _, _, _⟩) rfl (fun K hK => ?_) ?_
        have lo8 := hHeld2.1.size
        obtain ⟨⟨a8_z0, a8_c0, a8_f0⟩, ⟨a8_z1, a8_c1, a8_f1⟩, ⟨a8_z2, a8_c2, a8_f2⟩, ⟨a8_z3, a8_c3, a8_f3⟩, ⟨a8_z4, a8_c4, a8_f4⟩, ⟨a8_z5, a8_c5, a8_f5⟩, ⟨a8_z6, a8_c6, a8_f6⟩, ⟨a8_z7, a8_c7, a8_f7⟩, ⟨a8_z8, a8_c8, a8_f8⟩, ⟨a8_z9, a8_c9, a8_f9⟩, ⟨a8_z10, a8_c10, a8_f10⟩, ⟨a8_z11, a8_c11, a8_f11⟩, ⟨a8_z12, a8_c12, a8_f12⟩, ⟨a8_z13, a8_c13, a8_f13⟩, _⟩ := hHeld2.2
        (try simp at lo8); (try simp at a8_z0); (try simp at a8_z1); (try simp at a8_z2); (try simp at a8_z3); (try simp at a8_z4); (try simp at a8_z5); (try simp at a8_z6); (try simp at a8_z7); (try simp at a8_z8); (try simp at a8_z9); (try simp at a8_z10); (try simp at a8_z11); (try simp at a8_z12); (try simp at a8_z13)
        go_simp
        refine hK.out _ _ (by first | exact hHeld2.alloc _ | exact (hHeld2.alloc _).drew) (fun hHeld6 => ?_)
        first | have hS8 := newK2 hHeld6 | have hS8 := newK2d hHeld6
        clear hK K
        try clear hb
        try go_frame
        generalize hGWA3 : World.alloc wb (.cells #[.int .i64 0, .int .u64 0] 102) = WA3 at *
        clear hGWA3
        refine wpAnyH_ready (rs := [16]) (by kernel_rfl) (by simp) ?_
        refine AllReadyH.cons (o := ⟨some 35, _, _, _, _, _⟩) rfl (fun K hK => ?_) AllReadyH.nil
        go_simp
        (first | ((with_reducible refine (M1.out _).mono ?_); rintro e wa ⟨rfl, hb⟩) | ((try rw [e1]); (try rw [e2]); (with_reducible refine (M2.out _).mono ?_); rintro e wb ⟨rfl, hb⟩) | ((with_reducible refine (SB.out _).mono ?_); rintro e wc ⟨rfl, hb⟩))
        refine hK.out _ _ (hHeld6.next hb) (fun hHeld7 => ?_)
        replace hS8 := hS8.next hb
        clear hK K
        try clear hb
        try go_frame
        refine wpAnyH_take (i := 17) (oi := ⟨some 18, _, _, _, _, _⟩) (v := ?_) rfl (by kernel_rfl) (by kernel_rfl) (by kernel_rfl) (fun _ _ _ h => h) (Or.inl ⟨by rfl, ?_⟩) (by assumption) ?_
        rotate_left
        · intro wq hSw; go_simp; (try with_reducible rfl)
        try go_frame
        refine wpAnyH_take (i := 18) (oi := ⟨some 36, _, _, _, _, _⟩) (v := ?_) rfl (by kernel_rfl) (by kernel_rfl) (by kernel_rfl) (fun _ _ _ h => h) (Or.inl ⟨by rfl, ?_⟩) (by assumption) ?_
        rotate_left
        · intro wq hSw; go_simp; (try with_reducible rfl)
        try go_frame
        refine wpAnyH_take (i := 19) (oi := ⟨some 37, _, _, _, _, _⟩) (v := ?_) rfl (by kernel_rfl) (by kernel_rfl) (by kernel_rfl) (fun _ _ _ h => h) (Or.inl ⟨by rfl, ?_⟩) (by assumption) ?_
        rotate_left
        · intro wq hSw; go_simp; (try with_reducible rfl)
        try go_frame
        refine wpAnyH_ready (rs := [21]) (by kernel_rfl) (by simp) ?_
        refine AllReadyH.cons (o := ⟨none, _, _, _, _, _⟩) rfl (fun K hK => ?_) AllReadyH.nil
        obtain ⟨⟨s8z0, s8c0, s8f0⟩, ⟨s8z1, s8c1, s8f1⟩, _⟩ := hS8.2
        go_simp
        refine hK.out _ _ (by (repeat (first | (with_reducible exact hHeld7) | (refine Keeps.set ?_ (by simp <;> omega) (by simp <;> omega) _)))) (fun hHeld8 => ?_)
        replace hS8 := hHeld8.add2 s8z0 s8c0 s8f0 s8c1 s8f1
        clear s8z0 s8c0 s8f0 s8z1 s8c1 s8f1
        clear hK K
        try clear hb
        try go_frame
        generalize hGWA4 : World.setCell (World.setCell wc ⟨wb.heap.size, 0, none⟩ (.int .i64 z0)) ⟨wb.heap.size, 1, none⟩ (.int .u64 z1) = WA4 at *
        clear hGWA4
        refine wpAnyH_take (i := 22) (oi := ⟨some 9, _, _, _, _, _⟩) (v := ?_) rfl (by kernel_rfl) (by kernel_rfl) (by kernel_rfl) (fun _ _ _ h => h) (Or.inl ⟨by rfl, ?_⟩) (by assumption) ?_
        rotate_left
        · intro wq hSw; go_simp; (try with_reducible rfl)
        try go_frame
        refine wpAnyH_done (by kernel_rfl) ?_ _
        have hHeld := hHeld8
        rotate_left 1
        exact AllReadyH.nil
        refine AllReadyH.cons (o := ⟨some 8, _, _, _, _, _⟩) rfl (fun K hK => ?_) ?_
        have lo8 := hHeld1.1.size
        obtain ⟨⟨a8_z0, a8_c0, a8_f0⟩, ⟨a8_z1, a8_c1, a8_f1⟩, ⟨a8_z2, a8_c2, a8_f2⟩, ⟨a8_z3, a8_c3, a8_f3⟩, ⟨a8_z4, a8_c4, a8_f4⟩, ⟨a8_z5, a8_c5, a8_f5⟩, ⟨a8_z6, a8_c6, a8_f6⟩, ⟨a8_z7, a8_c7, a8_f7⟩, ⟨a8_z8, a8_c8, a8_f8⟩, ⟨a8_z9, a8_c9, a8_f9⟩, ⟨a8_z10, a8_c10, a8_f10⟩, ⟨a8_z11, a8_c11, a8_f11⟩, ⟨a8_z12, a8_c12, a8_f12⟩, ⟨a8_z13, a8_c13, a8_f13⟩, _⟩ := hHeld1.2
        (try simp at lo8); (try simp at a8_z0); (try simp at a8_z1); (try simp at a8_z2); (try simp at a8_z3); (try simp at a8_z4); (try simp at a8_z5); (try simp at a8_z6); (try simp at a8_z7); (try simp at a8_z8); (try simp at a8_z9); (try simp at a8_z10); (try simp at a8_z11); (try simp at a8_z12); (try simp at a8_z13)
        go_simp
        refine hK.out _ _ (by first | exact hHeld1.alloc _ | exact (hHeld1.alloc _).drew) (fun hHeld9 => ?_)
        first | have hS8 := newK2 hHeld9 | have hS8 := newK2d hHeld9
        clear hK K
        try clear hb
        try go_frame
        generalize hGWA5 : World.alloc wa (.cells #[.int .i64 0, .int .u64 0] 102) = WA5 at *
        clear hGWA5
        refine wpAnyH_ready (rs := [15]) (by kernel_rfl) (by simp) ?_
        refine AllReadyH.cons (o := ⟨some 34, _, _, _, _, _⟩) rfl (fun K hK => ?_) AllReadyH.nil
        go_simp
        (first | ((with_reducible refine (M1.out _).mono ?_); rintro e wa ⟨rfl, hb⟩) | ((try rw [e1]); (try rw [e2]); (with_reducible refine (M2.out _).mono ?_); rintro e wb ⟨rfl, hb⟩) | ((with_reducible refine (SB.out _).mono ?_); rintro e wc ⟨rfl, hb⟩))
        refine hK.out _ _ (hHeld9.next hb) (fun hHeld10 => ?_)
        replace hS8 := hS8.next hb
        clear hK K
        try clear hb
        try go_frame
        refine wpAnyH_ready (rs := [16]) (by kernel_rfl) (by simp) ?_
        refine AllReadyH.cons (o := ⟨some 35, _, _, _, _, _⟩) rfl (fun K hK => ?_) AllReadyH.nil
        go_simp
        (first | ((with_reducible refine (M1.out _).mono ?_); rintro e wa ⟨rfl, hb⟩) | ((try rw [e1]); (try rw [e2]); (with_reducible refine (M2.out _).mono ?_); rintro e wb ⟨rfl, hb⟩) | ((with_reducible refine (SB.out _).mono ?_); rintro e wc ⟨rfl, hb⟩))
        refine hK.out _ _ (hHeld10.next hb) (fun hHeld11 => ?_)
        replace hS8 := hS8.next hb
        clear hK K
        try clear hb
        try go_frame
        refine wpAnyH_take (i := 17) (oi := ⟨some 18, _, _, _, _, _⟩) (v := ?_) rfl (by kernel_rfl) (by kernel_rfl) (by kernel_rfl) (fun _ _ _ h => h) (Or.inl ⟨by rfl, ?_⟩) (by assumption) ?_
        rotate_left
        · intro wq hSw; go_simp; (try with_reducible rfl)
        try go_frame
        refine wpAnyH_take (i := 18) (oi := ⟨some 36, _, _, _, _, _⟩) (v := ?_) rfl (by kernel_rfl) (by kernel_rfl) (by kernel_rfl) (fun _ _ _ h => h) (Or.inl ⟨by rfl, ?_⟩) (by assumption) ?_
        rotate_left
        · intro wq hSw; go_simp; (try with_reducible rfl)
        try go_frame
        refine wpAnyH_take (i := 19) (oi := ⟨some 37, _, _, _, _, _⟩) (v := ?_) rfl (by kernel_rfl) (by kernel_rfl) (by kernel_rfl) (fun _ _ _ h => h) (Or.inl ⟨by rfl, ?_⟩) (by assumption) ?_
        rotate_left
        · intro wq hSw; go_simp; (try with_reducible rfl)
        try go_frame
        refine wpAnyH_ready (rs := [21]) (by kernel_rfl) (by simp) ?_
        refine AllReadyH.cons (o := ⟨none, _, _, _, _, _⟩) rfl (fun K hK => ?_) AllReadyH.nil
        obtain ⟨⟨s8z0, s8c0, s8f0⟩, ⟨s8z1, s8c1, s8f1⟩, _⟩ := hS8.2
        go_simp
        refine hK.out _ _ (by (repeat (first | (with_reducible exact hHeld11) | (refine Keeps.set ?_ (by simp <;> omega) (by simp <;> omega) _)))) (fun hHeld12 => ?_)
        replace hS8 := hHeld12.add2 s8z0 s8c0 s8f0 s8c1 s8f1
        clear s8z0 s8c0 s8f0 s8z1 s8c1 s8f1
        clear hK K
        try clear hb
        try go_frame
        generalize hGWA6 : World.setCell (World.setCell wc ⟨wa.heap.size, 0, none⟩ (.int .i64 z0)) ⟨wa.heap.size, 1, none⟩ (.int .u64 z1) = WA6 at *
        clear hGWA6
        refine wpAnyH_take (i := 22) (oi := ⟨some 9, _, _, _, _, _⟩) (v := ?_) rfl (by kernel_rfl) (by kernel_rfl) (by kernel_rfl) (fun _ _ _ h => h) (Or.inl ⟨by rfl, ?_⟩) (by assumption) ?_
        rotate_left
        · intro wq hSw; go_simp; (try with_reducible rfl)
        try go_frame
        refine wpAnyH_done (by kernel_rfl) ?_ _
        have hHeld := hHeld12
        rotate_left 1
        exact AllReadyH.nil
        refine AllReadyH.cons (o := ⟨some 8, _, _, _, _, _⟩) rfl (fun K hK => ?_) ?_
        have lo8 := hHeld0.1.size
        obtain ⟨⟨a8_z0, a8_c0, a8_f0⟩, ⟨a8_z1, a8_c1, a8_f1⟩, ⟨a8_z2, a8_c2, a8_f2⟩, ⟨a8_z3, a8_c3, a8_f3⟩, ⟨a8_z4, a8_c4, a8_f4⟩, ⟨a8_z5, a8_c5, a8_f5⟩, ⟨a8_z6, a8_c6, a8_f6⟩, ⟨a8_z7, a8_c7, a8_f7⟩, ⟨a8_z8, a8_c8, a8_f8⟩, ⟨a8_z9, a8_c9, a8_f9⟩, ⟨a8_z10, a8_c10, a8_f10⟩, ⟨a8_z11, a8_c11, a8_f11⟩, ⟨a8_z12, a8_c12, a8_f12⟩, ⟨a8_z13, a8_c13, a8_f13⟩, _⟩ := hHeld0.2
        (try simp at lo8); (try simp at a8_z0); (try simp at a8_z1); (try simp at a8_z2); (try simp at a8_z3); (try simp at a8_z4); (try simp at a8_z5); (try simp at a8_z6); (try simp at a8_z7); (try simp at a8_z8); (try simp at a8_z9); (try simp at a8_z10); (try simp at a8_z11); (try simp at a8_z12); (try simp at a8_z13)
        go_simp
        refine hK.out _ _ (by first | exact hHeld0.alloc _ | exact (hHeld0.alloc _).drew) (fun hHeld13 => ?_)
        first | have hS8 := newK2 hHeld13 | have hS8 := newK2d hHeld13
        clear hK K
        try clear hb
        try go_frame
        generalize hGWA7 : World.alloc wi (.cells #[.int .i64 0, .int .u64 0] 102) = WA7 at *
        clear hGWA7
        refine wpAnyH_ready (rs := [4]) (by kernel_rfl) (by simp) ?_
        refine AllReadyH.cons (o := ⟨some 23, _, _, _, _, _⟩) rfl (fun K hK => ?_) AllReadyH.nil
        go_simp
        (first | ((with_reducible refine (M1.out _).mono ?_); rintro e wa ⟨rfl, hb⟩) | ((try rw [e1]); (try rw [e2]); (with_reducible refine (M2.out _).mono ?_); rintro e wb ⟨rfl, hb⟩) | ((with_reducible refine (SB.out _).mono ?_); rintro e wc ⟨rfl, hb⟩))
        refine hK.out _ _ (hHeld13.next hb) (fun hHeld14 => ?_)
        replace hS8 := hS8.next hb
        clear hK K
        try clear hb
        try go_frame
        refine wpAnyH_ready (rs := [15]) (by kernel_rfl) (by simp) ?_
        refine AllReadyH.cons (o := ⟨some 34, _, _, _, _, _⟩) rfl (fun K hK => ?_) AllReadyH.nil
        go_simp
        (first | ((with_reducible refine (M1.out _).mono ?_); rintro e wa ⟨rfl, hb⟩) | ((try rw [e1]); (try rw [e2]); (with_reducible refine (M2.out _).mono ?_); rintro e wb ⟨rfl, hb⟩) | ((with_reducible refine (SB.out _).mono ?_); rintro e wc ⟨rfl, hb⟩))
        refine hK.out _ _ (hHeld14.next hb) (fun hHeld15 => ?_)
        replace hS8 := hS8.next hb
        clear hK K
        try clear hb
        try go_frame
        refine wpAnyH_ready (rs := [16]) (by kernel_rfl) (by simp) ?_
        refine AllReadyH.cons (o := ⟨some 35, _, _, _, _, _⟩) rfl (fun K hK => ?_) AllReadyH.nil
        go_simp
        (first | ((with_reducible refine (M1.out _).mono ?_); rintro e wa ⟨rfl, hb⟩) | ((try rw [e1]); (try rw [e2]); (with_reducible refine (M2.out _).mono ?_); rintro e wb ⟨rfl, hb⟩) | ((with_reducible refine (SB.out _).mono ?_); rintro e wc ⟨rfl, hb⟩))
        refine hK.out _ _ (hHeld15.next hb) (fun hHeld16 => ?_)
        replace hS8 := hS8.next hb
        clear hK K
        try clear hb
        try go_frame
        refine wpAnyH_take (i := 17) (oi := ⟨some 18, _, _, _, _, _⟩) (v := ?_) rfl (by kernel_rfl) (by kernel_rfl) (by kernel_rfl) (fun _ _ _ h => h) (Or.inl ⟨by rfl, ?_⟩) (by assumption) ?_
        rotate_left
        · intro wq hSw; go_simp; (try with_reducible rfl)
        try go_frame
        refine wpAnyH_take (i := 18) (oi := ⟨some 36, _, _, _, _, _⟩) (v := ?_) rfl (by kernel_rfl) (by kernel_rfl) (by kernel_rfl) (fun _ _ _ h => h) (Or.inl ⟨by rfl, ?_⟩) (by assumption) ?_
        rotate_left
        · intro wq hSw; go_simp; (try with_reducible rfl)
        try go_frame
        refine wpAnyH_take (i := 19) (oi := ⟨some 37, _, _, _, _, _⟩) (v := ?_) rfl (by kernel_rfl) (by kernel_rfl) (by kernel_rfl) (fun _ _ _ h => h) (Or.inl ⟨by rfl, ?_⟩) (by assumption) ?_
        rotate_left
        · intro wq hSw; go_simp; (try with_reducible rfl)
        try go_frame
        refine wpAnyH_ready (rs := [21]) (by kernel_rfl) (by simp) ?_
        refine AllReadyH.cons (o := ⟨none, _, _, _, _, _⟩) rfl (fun K hK => ?_) AllReadyH.nil
        obtain ⟨⟨s8z0, s8c0, s8f0⟩, ⟨s8z1, s8c1, s8f1⟩, _⟩ := hS8.2
        go_simp
        refine hK.out _ _ (by (repeat (first | (with_reducible exact hHeld16) | (refine Keeps.set ?_ (by simp <;> omega) (by simp <;> omega) _)))) (fun hHeld17 => ?_)
        replace hS8 := hHeld17.add2 s8z0 s8c0 s8f0 s8c1 s8f1
        clear s8z0 s8c0 s8f0 s8z1 s8c1 s8f1
        clear hK K
        try clear hb
        try go_frame
        generalize hGWA8 : World.setCell (World.setCell wc ⟨wi.heap.size, 0, none⟩ (.int .i64 z0)) ⟨wi.heap.size, 1, none⟩ (.int .u64 z1) = WA8 at *
        clear hGWA8
        refine wpAnyH_take (i := 22) (oi := ⟨some 9, _, _, _, _, _⟩) (v := ?_) rfl (by kernel_rfl) (by kernel_rfl) (by kernel_rfl) (fun _ _ _ h => h) (Or.inl ⟨by rfl, ?_⟩) (by assumption) ?_
        rotate_left
        · intro wq hSw; go_simp; (try with_reducible rfl)
        try go_frame
        refine wpAnyH_done (by kernel_rfl) ?_ _
        have hHeld := hHeld17
        rotate_left 1
        exact AllReadyH.nil
        all_goals
          go_wp2_with fail
          go_meet
          case rel =>
            obtain ⟨hb, a0, a1, b0, b1, b2, b3, b4, b5, b6, b7, b8, b9, b10, _⟩ := hS8
            exact ⟨_, rfl, hb, a0, a1, b0, b1, b2, b3, b4, b5, b6, b7, b8, b9, b10, trivial⟩
      case rest =>
        obtain ⟨g, rfl, hK⟩ := hcut
        obtain ⟨⟨kz0, kc0, kf0⟩, ⟨kz1, kc1, kf1⟩, ⟨kz2, kc2, kf2⟩, ⟨kz3, kc3, kf3⟩, ⟨kz4, kc4, kf4⟩, ⟨kz5, kc5, kf5⟩, ⟨kz6, kc6, kf6⟩, ⟨kz7, kc7, kf7⟩, ⟨kz8, kc8, kf8⟩, ⟨kz9, kc9, kf9⟩, ⟨kz10, kc10, kf10⟩, ⟨kz11, kc11, kf11⟩, ⟨kz12, kc12, kf12⟩, _⟩ := hK.2
        have HKK := Lib.hid hK
        clear hK hHs M1 M2 SB
        have hS : ∀ W, Below wc.heap.size wc W → Keeps w [(w.heap.size, 0, .int .i64 sa), (w.heap.size, 1, .int .i64 sb), (w.heap.size, 2, .int .i64 sc), (w.heap.size, 3, .int .i64 sd), (w.heap.size, 4, .slice (some ⟨bb, off, none⟩) l.length c), (w.heap.size + 1, 0, .int .i64 n), (w.heap.size + 1, 1, .int .i64 d), (w.heap.size + 2, 0, .int .i64 0), (w.heap.size + 2, 1, .int .u64 0), (w.heap.size + 3, 0, .int .i64 z0), (w.heap.size + 3, 1, .int .u64 z1)] ((W.setCell ⟨w.heap.size + 3, 0, none⟩ (.int .i64 z0)).setCell ⟨w.heap.size + 3, 1, none⟩ (.int .u64 z1)) := by
          intro W hb
          obtain ⟨h1, _, _, h2⟩ := HKK.out
          have h3 : Keeps w [(w.heap.size, 0, .int .i64 sa), (w.heap.size, 1, .int .i64 sb), (w.heap.size, 2, .int .i64 sc), (w.heap.size, 3, .int .i64 sd), (w.heap.size, 4, .slice (some ⟨bb, off, none⟩) l.length c), (w.heap.size + 1, 0, .int .i64 n), (w.heap.size + 1, 1, .int .i64 d), (w.heap.size + 2, 0, .int .i64 0), (w.heap.size + 2, 1, .int .u64 0), (w.heap.size + 3, 0, .int .i64 m0), (w.heap.size + 3, 1, .int .u64 m1)] W := Keeps.next ⟨h1, h2⟩ hb
          obtain ⟨_, _, _, _, _, _, _, _, _, _, ⟨_, q0, _⟩, ⟨_, q1, _⟩, _⟩ := id h3
          have := h3.upd2 q0 q1 (by decide) (by simp) (.int .i64 z0) (.int .u64 z1)
          simpa [updL] using this
        have HS := Lib.hid hS
        clear hS
        by_cases k0 : k = 0
        · subst k0
          go_wp2_with fail
          go_roundw
          case rel =>
            have e0 : lowC t0 n d (l.take 1) = C := (lowC_one HX.out.1).trans HCC.out.symm
            refine ⟨1, rfl, by omega, Lib.hid ?_⟩
            rw [e0, ← HZ.out.1, ← HZ.out.2]
            exact HS.out _ (Below.refl _ _)
          case measure => simp [intOf]; omega
        · have n0 : ((k : Int) == 0) = false := beq_eq_false_iff_ne.2 (by omega)
          have e1 : wrap64 ((k : Int) + 1) = (k : Int) + 1 := i64_keeps (by omega) (by omega)
          have hmore := lowC_more (t0 := t0) (n := n) (d := d) HX.out.1 k0
          rw [← HCC.out, ← HMM.out] at hmore
          have CM := Lib.hid (fun W => compare_fits C M (by rw [HCC.out]; exact HX.out.2.2) (by rw [HMM.out]; exact low_fits (fun b hb => HC.out b (List.mem_of_mem_take hb))) W)
          rw [← HZ.out.1, ← HZ.out.2, ← HM.out.1, ← HM.out.2] at CM
          have hpos := cmpI_pos C M
          have HMO := Lib.hid hmore
          generalize cmpI C M = q at *
          clear hmore
          by_cases gl : M < C
          · rw [decide_eq_true gl] at hpos
            have hq := of_decide_eq_true hpos
            replace hq : 0 < q := hq
            have HGL := Lib.hid gl
            clear hpos gl
            go_wp2_with fail
            refine (CM.out _).mono ?_
            rintro en w5 ⟨rfl, hb5⟩
            have HS5 := Lib.hid (HS.out _ hb5)
            have hK5 := HKK.out.next hb5
            clear kz0 kc0 kf0 kz1 kc1 kf1 kz2 kc2 kf2 kz3 kc3 kf3 kz4 kc4 kf4 kz5 kc5 kf5 kz6 kc6 kf6 kz7 kc7 kf7 kz8 kc8 kf8 kz9 kc9 kf9 kz10 kc10 kf10 kz11 kc11 kf11 kz12 kc12 kf12 hb5 CM
            obtain ⟨⟨kz0, kc0, kf0⟩, ⟨kz1, kc1, kf1⟩, ⟨kz2, kc2, kf2⟩, ⟨kz3, kc3, kf3⟩, ⟨kz4, kc4, kf4⟩, ⟨kz5, kc5, kf5⟩, ⟨kz6, kc6, kf6⟩, ⟨kz7, kc7, kf7⟩, ⟨kz8, kc8, kf8⟩, ⟨kz9, kc9, kf9⟩, ⟨kz10, kc10, kf10⟩, ⟨kz11, kc11, kf11⟩, ⟨kz12, kc12, kf12⟩, _⟩ := hK5.2
            go_wp2_with fail
            go_roundw
            case rel =>
              refine ⟨k + 1, by simp, gk, Lib.hid ?_⟩
              rw [HMO.out, if_pos HGL.out, ← HZ.out.1, ← HZ.out.2]
              exact HS5.out
            case measure => exact index_less gk
          · rw [decide_eq_false gl] at hpos
            have hq := of_decide_eq_false hpos
            replace hq : ¬ 0 < q := hq
            have HGL := Lib.hid gl
            clear hpos gl
            go_wp2_with fail
            refine (CM.out _).mono ?_
            rintro en w5 ⟨rfl, hb5⟩
            have hK5 := HKK.out.next hb5
            clear kz0 kc0 kf0 kz1 kc1 kf1 kz2 kc2 kf2 kz3 kc3 kf3 kz4 kc4 kf4 kz5 kc5 kf5 kz6 kc6 kf6 kz7 kc7 kf7 kz8 kc8 kf8 kz9 kc9 kf9 kz10 kc10 kf10 kz11 kc11 kf11 kz12 kc12 kf12 hb5 CM
            go_wp2_with fail
            go_roundw
            case rel =>
              refine ⟨k + 1, by simp, gk, Lib.hid ?_⟩
              rw [HMO.out, if_neg (Int.not_lt.2 HGL.out), ← HM.out.1, ← HM.out.2]
              exact ⟨hK5.1, hK5.2.2.2⟩
            case measure => exact index_less gk
    · have hkk : k = l.length := by omega
      have hHeld := hB.out
      have i1 : ¬ (k : Int) < (l.length : Int) := by omega
      rw [hkk, List.take_length] at hHeld
      clear hB hkk
      obtain ⟨⟨kz0, kc0, kf0⟩, ⟨kz1, kc1, kf1⟩, ⟨kz2, kc2, kf2⟩, ⟨kz3, kc3, kf3⟩, ⟨kz4, kc4, kf4⟩, ⟨kz5, kc5, kf5⟩, ⟨kz6, kc6, kf6⟩, ⟨kz7, kc7, kf7⟩, ⟨kz8, kc8, kf8⟩, ⟨kz9, kc9, kf9⟩, ⟨kz10, kc10, kf10⟩, _⟩ := hHeld.2
      go_wp2_with fail
      obtain ⟨d0, d1⟩ := set2 (W := wr) (B := w.heap.size + 2) (u0 := .int .i64 (rhi (lowC t0 n d l))) (u1 := .int .u64 (rlo (lowC t0 n d l))) kc7 kc8
      refine bodyPost_ret (v := wz (lowC t0 n d l)) (by simp [results, Tryz.results55, go_sem, d0, d1]) rfl ?_
      exact ⟨rfl, (hHeld.1.setCell (p := ⟨w.heap.size + 2, 0, none⟩) (by simp) _).setCell (p := ⟨w.heap.size + 2, 1, none⟩) (by simp) _⟩
end Go.Proofs.YtoephkglpbophaaGreat.P10
