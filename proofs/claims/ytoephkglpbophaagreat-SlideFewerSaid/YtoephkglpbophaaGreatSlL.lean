/-
  Layer 10: slide: Through. Conditions: those written at each fact.
-/
import Derived.Maps.RangeWalk
import Derived.Test.YtoephkglpbophaaGreatSlK
namespace Go.Proofs.YtoephkglpbophaaGreat.P10
open Go.RowKit Go.Shelf Go.Proofs.YtoephkglpbophaaGreat.P8

/-- Where a test first holds of a band. -/
def idxP (f : Bd → Bool) : Nat → List Bd → Int
  | _, [] => -1
  | k, b :: l => if f b then (k : Int) else idxP f (k + 1) l
theorem idxP_any (f : Bd → Bool) : ∀ (l : List Bd) (k : Nat), decide (idxP f k l ≥ 0) = l.any f
  | [], _ => rfl
  | b :: l, k => by
    rw [idxP, List.any_cons, ← idxP_any f l (k + 1)]
    cases f b
    · simp
    · simp
set_option maxRecDepth 100000 in
set_option maxHeartbeats 1000000 in
theorem index_any (f : Bd → Bool) (K : Nat) (caps : Array Value) (eK : ∀ args w, (callFunc K args).run Tryz.prog w = .ok (.enter K args) w) (l : List Bd) (hl : l.length ≤ 1000000) (v : Value) (w : World) (h : ReadsD w v l)
    (hT : ∀ b ∈ l, ∀ W, Below w.heap.size w W → Calls Tryz.prog K (#[bandV b] ++ caps) W (Ret W (.bool (f b)))) :
    Calls Tryz.prog 61 #[v, .func (.func K) #[] caps] w (Ret w (.int .i64 (idxP f 0 l))) := by
  obtain ⟨A, c, rfl, _, hk⟩ := h
  have HK := Lib.hid hk
  have HT := Lib.hid hT
  obtain ⟨R, hR⟩ : ∃ R, R = idxP f 0 l := ⟨_, rfl⟩
  rw [← hR]
  have AS : Hid (R = idxP f 0 (l.drop 0)) := Lib.hid (by simpa using hR)
  clear hk hR hT
  go_enter Tryz.func61, Tryz.ntmps61
  go_wp2_with fail
  go_loopw [8] (fun i wr => ∃ k : Nat, i = .int .i64 k ∧ k ≤ l.length ∧ Hid (R = idxP f k (l.drop k)) ∧ Below w.heap.size w wr) (fun i _ => l.length - (intOf i).toNat)
  case atStart => exact ⟨0, rfl, by omega, AS, Below.refl _ _⟩
  case round =>
    obtain ⟨k, rfl, hkl, hA, hB⟩ := hrel
    clear AS
    by_cases gk : k < l.length
    · obtain ⟨⟨t, a, d⟩, hx⟩ : ∃ s, l[k]? = some s := ⟨_, List.getElem?_eq_getElem gk⟩
      obtain ⟨bb, off, rfl, hbw, hc1, hc2, hc3⟩ := HK.out k _ hx
      have c1 := (hB.cell (p := ⟨bb, off + k * 3, none⟩) hbw).trans hc1
      have c2 := (hB.cell (p := ⟨bb, off + k * 3 + 1, none⟩) hbw).trans hc2
      have c3 := (hB.cell (p := ⟨bb, off + k * 3 + 2, none⟩) hbw).trans hc3
      simp only at c1 c2 c3
      have i1 : (k : Int) < (l.length : Int) := by omega
      have i0 : (0 : Int) ≤ (k : Int) := by omega
      have hA2 := hA.out
      rw [drop_of hx, idxP] at hA2
      have TN := Lib.hid (HT.out _ (List.mem_of_getElem? hx) wr hB)
      clear hc1 hc2 hc3 hA hx
      cases g : f ⟨t, a, d⟩
      · rw [g] at hA2 TN
        have E : Hid (R = idxP f (k + 1) (l.drop (k + 1))) := Lib.hid (by simpa using hA2)
        clear hA2 g
        go_wp2_with fail
        refine TN.out.mono ?_
        rintro e w1 ⟨rfl, hb1⟩
        have hB1 := under hB hb1
        go_wp2_with fail
        go_roundw
        case rel => exact ⟨k + 1, by simp, gk, E, hB1⟩
        case measure => exact index_less gk
      · rw [g] at hA2 TN
        have E : Hid (R = (k : Int)) := Lib.hid (by simpa using hA2)
        clear hA2 g
        go_wp2_with fail
        refine TN.out.mono ?_
        rintro e w1 ⟨rfl, hb1⟩
        have hB1 := under hB hb1
        go_wp2_with fail
        go_ret
        exact ⟨by rw [E.out]; rfl, hB1⟩
    · have hkk : k = l.length := by omega
      have E : Hid (R = -1) := Lib.hid (by rw [hA.out, hkk, List.drop_length]; rfl)
      have i1 : ¬ (k : Int) < (l.length : Int) := by omega
      clear hA
      go_wp2_with fail
      go_ret
      exact ⟨by rw [E.out]; rfl, hB⟩
set_option maxHeartbeats 1000000 in
theorem contains_any (f : Bd → Bool) (K : Nat) (caps : Array Value) (eK : ∀ args w, (callFunc K args).run Tryz.prog w = .ok (.enter K args) w) (l : List Bd) (hl : l.length ≤ 1000000) (v : Value) (w : World) (h : ReadsD w v l)
    (hT : ∀ b ∈ l, ∀ W, Below w.heap.size w W → Calls Tryz.prog K (#[bandV b] ++ caps) W (Ret W (.bool (f b)))) :
    Calls Tryz.prog 36 #[v, .func (.func K) #[] caps] w (Ret w (.bool (l.any f))) := by
  have IX := Lib.hid (index_any f K caps eK l hl v w h hT)
  have HE := Lib.hid (idxP_any f l 0)
  obtain ⟨A, c, rfl, _, _⟩ := h
  clear hT eK
  generalize idxP f 0 l = z at *
  generalize l.any f = b at *
  go_enter Tryz.func36, Tryz.ntmps36
  go_wp2_with fail
  refine IX.out.mono ?_
  rintro e w1 ⟨rfl, hb1⟩
  go_wp2_with fail
  go_ret
  exact ⟨by rw [← HE.out]; rfl, hb1⟩
/-- Does a line go through bands, whose first time is t0? -/
def goesB (a r n d t0 : Int) (l : List Bd) : Bool := l.all fun b => wnB a r n d (b.t - t0) b.lo b.hi
def thrB (a r n d : Int) (l : List Bd) : Bool := okD l && goesB a r n d (headT l) l
theorem goes_not (a r n d t0 : Int) (l : List Bd) : (l.any fun b => !wnB a r n d (b.t - t0) b.lo b.hi) = !goesB a r n d t0 l := by
  unfold goesB
  induction l with
  | nil => rfl
  | cons b l ih => rw [List.any_cons, List.all_cons, ih, Bool.not_and]
/-- What the test stands on: a line's block, and that of a slice of bands. -/
structure TBase (a r n d : Int) (bb off c m : Nat) (t0 : Int) (Bx Bl : Nat) (W : World) : Prop where
  line : Cells [(Bx, 0, .int .i64 a), (Bx, 1, .int .i64 r), (Bx, 2, .int .i64 n), (Bx, 3, .int .i64 d)] W
  box : Boxed W Bl 22 (.slice (some ⟨bb, off, none⟩) m c)
  first : bb < W.heap.size ∧ W.cell? ⟨bb, off, none⟩ = some (.int .i64 t0)
theorem TBase.next {a r n d : Int} {bb off c m : Nat} {t0 : Int} {Bx Bl : Nat} {W W' : World} (h : TBase a r n d bb off c m t0 Bx Bl W) (hb : Below W.heap.size W W') : TBase a r n d bb off c m t0 Bx Bl W' :=
  ⟨h.line.next hb, (hb.block _ h.box.lt).trans h.box, Nat.lt_of_lt_of_le h.first.1 hb.size, (hb.cell (p := ⟨bb, off, none⟩) h.first.1).trans h.first.2⟩
set_option maxRecDepth 100000 in
set_option maxHeartbeats 2000000 in
theorem beside_any (a r n d : Int) (bb off c m : Nat) (t0 : Int) (hm : 0 < m) (ht0 : 0 ≤ t0 ∧ t0 ≤ 281474976710656) (t lo hi : Int) (hb : BdOk ⟨t, lo, hi⟩) (Bx Bl : Nat) (w : World) (hB : TBase a r n d bb off c m t0 Bx Bl w) :
    Calls Tryz.prog 34 #[bandV ⟨t, lo, hi⟩, .pointer (some ⟨Bx, 0, none⟩), .pointer (some ⟨Bl, 0, none⟩)] w (Ret w (.bool (!wnB a r n d (t - t0) lo hi))) := by
  obtain ⟨q1, q2, q3, q4, q5⟩ := hb
  simp only at q1 q2 q3 q4 q5
  have WI := Lib.hid (fun W => Go.Proofs.YtoephkglpbophaaGreat.within_any a r n d (t - t0) lo hi (by unfold I64; omega) (by unfold I64; omega) W)
  have e1 : wrap64 (t - t0) = t - t0 := i64_keeps (by omega) (by omega)
  have e2 : IntKind.i64.wrap (t - t0) = t - t0 := by rw [IntKind.wrap_i64]; omega
  have i1 : (0 : Int) < (m : Int) := by omega
  have hHs : Keeps w [(Bx, 0, .int .i64 a), (Bx, 1, .int .i64 r), (Bx, 2, .int .i64 n), (Bx, 3, .int .i64 d), (Bl, 0, .slice (some ⟨bb, off, none⟩) m c), (w.heap.size, 0, .int .i64 t), (w.heap.size, 1, .int .i64 lo), (w.heap.size, 2, .int .i64 hi)] (w.alloc (.cells #[.int .i64 t, .int .i64 lo, .int .i64 hi] 46)) := by
    have h1 := (hB.next (below_alloc w (.cells #[.int .i64 t, .int .i64 lo, .int .i64 hi] 46)))
    refine ⟨below_alloc w _, h1.line.1, h1.line.2.1, h1.line.2.2.1, h1.line.2.2.2.1, ⟨h1.box.lt, h1.box.cell, h1.box.frozen⟩, ?_⟩
    simp [Cells, go_sem]
  have HFI := Lib.hid hB.first
  generalize wnB a r n d (t - t0) lo hi = R at *
  clear hB q1 q2 q3 q4 q5 ht0
  go_enter Tryz.func34, Tryz.ntmps34
  go_wp2_with fail
  refine region_keeps (w0 := w) (L := [(Bx, 0, .int .i64 a), (Bx, 1, .int .i64 r), (Bx, 2, .int .i64 n), (Bx, 3, .int .i64 d), (Bl, 0, .slice (some ⟨bb, off, none⟩) m c), (w.heap.size, 0, .int .i64 t), (w.heap.size, 1, .int .i64 lo), (w.heap.size, 2, .int .i64 hi)]) (by kernel_rfl) hHs (fun hHeld0 => ?_)
  refine wpAnyH_take (i := 0) (oi := ⟨some 5, _, _, _, _, _⟩) (v := ?_) rfl (by kernel_rfl) (by kernel_rfl) (by kernel_rfl) (fun _ _ _ h => h) (Or.inl ⟨by rfl, ?_⟩) (by assumption) ?_
  rotate_left
  · intro wq hSw; obtain ⟨⟨qz0, qc0, qf0⟩, ⟨qz1, qc1, qf1⟩, ⟨qz2, qc2, qf2⟩, ⟨qz3, qc3, qf3⟩, ⟨qz4, qc4, qf4⟩, ⟨qz5, qc5, qf5⟩, ⟨qz6, qc6, qf6⟩, ⟨qz7, qc7, qf7⟩, _⟩ := hSw.2; have hp4 := (hSw.1.cell (p := ⟨bb, off, none⟩) HFI.out.1).trans HFI.out.2; go_simp; (try with_reducible rfl)
  try go_frame
  refine wpAnyH_take (i := 1) (oi := ⟨some 6, _, _, _, _, _⟩) (v := ?_) rfl (by kernel_rfl) (by kernel_rfl) (by kernel_rfl) (fun _ _ _ h => h) (Or.inl ⟨by rfl, ?_⟩) (by assumption) ?_
  rotate_left
  · intro wq hSw; go_simp; (try with_reducible rfl)
  try go_frame
  refine wpAnyH_take (i := 2) (oi := ⟨some 7, _, _, _, _, _⟩) (v := ?_) rfl (by kernel_rfl) (by kernel_rfl) (by kernel_rfl) (fun _ _ _ h => h) (Or.inl ⟨by rfl, ?_⟩) (by assumption) ?_
  rotate_left
  · intro wq hSw; obtain ⟨⟨qz0, qc0, qf0⟩, ⟨qz1, qc1, qf1⟩, ⟨qz2, qc2, qf2⟩, ⟨qz3, qc3, qf3⟩, ⟨qz4, qc4, qf4⟩, ⟨qz5, qc5, qf5⟩, ⟨qz6, qc6, qf6⟩, ⟨qz7, qc7, qf7⟩, _⟩ := hSw.2; have hp4 := (hSw.1.cell (p := ⟨bb, off, none⟩) HFI.out.1).trans HFI.out.2; go_simp; (try with_reducible rfl)
  try go_frame
  refine wpAnyH_take (i := 3) (oi := ⟨some 8, _, _, _, _, _⟩) (v := ?_) rfl (by kernel_rfl) (by kernel_rfl) (by kernel_rfl) (fun _ _ _ h => h) (Or.inl ⟨by rfl, ?_⟩) (by assumption) ?_
  rotate_left
  · intro wq hSw; obtain ⟨⟨qz0, qc0, qf0⟩, ⟨qz1, qc1, qf1⟩, ⟨qz2, qc2, qf2⟩, ⟨qz3, qc3, qf3⟩, ⟨qz4, qc4, qf4⟩, ⟨qz5, qc5, qf5⟩, ⟨qz6, qc6, qf6⟩, ⟨qz7, qc7, qf7⟩, _⟩ := hSw.2; have hp4 := (hSw.1.cell (p := ⟨bb, off, none⟩) HFI.out.1).trans HFI.out.2; go_simp; (try with_reducible rfl)
  try go_frame
  refine wpAnyH_take (i := 4) (oi := ⟨some 9, _, _, _, _, _⟩) (v := ?_) rfl (by kernel_rfl) (by kernel_rfl) (by kernel_rfl) (fun _ _ _ h => h) (Or.inl ⟨by rfl, ?_⟩) (by assumption) ?_
  rotate_left
  · intro wq hSw; go_simp; (try with_reducible rfl)
  try go_frame
  refine wpAnyH_take (i := 5) (oi := ⟨some 10, _, _, _, _, _⟩) (v := ?_) rfl (by kernel_rfl) (by kernel_rfl) (by kernel_rfl) (fun _ _ _ h => h) (Or.inl ⟨by rfl, ?_⟩) (by assumption) ?_
  rotate_left
  · intro wq hSw; go_simp; (try with_reducible rfl)
  try go_frame
  refine wpAnyH_take (i := 6) (oi := ⟨some 11, _, _, _, _, _⟩) (v := ?_) rfl (by kernel_rfl) (by kernel_rfl) (by kernel_rfl) (fun _ _ _ h => h) (Or.inl ⟨by rfl, ?_⟩) (by assumption) ?_
  rotate_left
  · intro wq hSw; obtain ⟨⟨qz0, qc0, qf0⟩, ⟨qz1, qc1, qf1⟩, ⟨qz2, qc2, qf2⟩, ⟨qz3, qc3, qf3⟩, ⟨qz4, qc4, qf4⟩, ⟨qz5, qc5, qf5⟩, ⟨qz6, qc6, qf6⟩, ⟨qz7, qc7, qf7⟩, _⟩ := hSw.2; have hp4 := (hSw.1.cell (p := ⟨bb, off, none⟩) HFI.out.1).trans HFI.out.2; go_simp; (try with_reducible rfl)
  try go_frame
  refine wpAnyH_take (i := 7) (oi := ⟨some 12, _, _, _, _, _⟩) (v := ?_) rfl (by kernel_rfl) (by kernel_rfl) (by kernel_rfl) (fun _ _ _ h => h) (Or.inl ⟨by rfl, ?_⟩) (by assumption) ?_
  rotate_left
  · intro wq hSw; go_simp; (try with_reducible rfl)
  try go_frame
  refine wpAnyH_take (i := 8) (oi := ⟨some 13, _, _, _, _, _⟩) (v := ?_) rfl (by kernel_rfl) (by kernel_rfl) (by kernel_rfl) (fun _ _ _ h => h) (Or.inl ⟨by rfl, ?_⟩) (by assumption) ?_
  rotate_left
  · intro wq hSw; go_simp; (try with_reducible rfl)
  try go_frame
  refine wpAnyH_take (i := 9) (oi := ⟨some 14, _, _, _, _, _⟩) (v := ?_) rfl (by kernel_rfl) (by kernel_rfl) (by kernel_rfl) (fun _ _ _ h => h) (Or.inl ⟨by rfl, ?_⟩) (by assumption) ?_
  rotate_left
  · intro wq hSw; obtain ⟨⟨qz0, qc0, qf0⟩, ⟨qz1, qc1, qf1⟩, ⟨qz2, qc2, qf2⟩, ⟨qz3, qc3, qf3⟩, ⟨qz4, qc4, qf4⟩, ⟨qz5, qc5, qf5⟩, ⟨qz6, qc6, qf6⟩, ⟨qz7, qc7, qf7⟩, _⟩ := hSw.2; have hp4 := (hSw.1.cell (p := ⟨bb, off, none⟩) HFI.out.1).trans HFI.out.2; go_simp; (try with_reducible rfl)
  try go_frame
  refine wpAnyH_take (i := 10) (oi := ⟨some 15, _, _, _, _, _⟩) (v := ?_) rfl (by kernel_rfl) (by kernel_rfl) (by kernel_rfl) (fun _ _ _ h => h) (Or.inl ⟨by rfl, ?_⟩) (by assumption) ?_
  rotate_left
  · intro wq hSw; go_simp; (try with_reducible rfl)
  try go_frame
  refine wpAnyH_take (i := 11) (oi := ⟨some 16, _, _, _, _, _⟩) (v := ?_) rfl (by kernel_rfl) (by kernel_rfl) (by kernel_rfl) (fun _ _ _ h => h) (Or.inl ⟨by rfl, ?_⟩) (by assumption) ?_
  rotate_left
  · intro wq hSw; obtain ⟨⟨qz0, qc0, qf0⟩, ⟨qz1, qc1, qf1⟩, ⟨qz2, qc2, qf2⟩, ⟨qz3, qc3, qf3⟩, ⟨qz4, qc4, qf4⟩, ⟨qz5, qc5, qf5⟩, ⟨qz6, qc6, qf6⟩, ⟨qz7, qc7, qf7⟩, _⟩ := hSw.2; have hp4 := (hSw.1.cell (p := ⟨bb, off, none⟩) HFI.out.1).trans HFI.out.2; go_simp; (try with_reducible rfl)
  try go_frame
  refine wpAnyH_ready (rs := [12]) (by kernel_rfl) (by simp) ?_
  refine AllReadyH.cons (o := ⟨some 17, _, _, _, _, _⟩) rfl (fun K hK => ?_) AllReadyH.nil
  go_simp
  (try rw [e2]); (try rw [e1]); (with_reducible refine (WI.out _).mono ?_); rintro e w5 ⟨rfl, hb⟩
  refine hK.out _ _ (hHeld0.next hb) (fun hHeld1 => ?_)
  clear hK K
  try clear hb
  try go_frame
  refine wpAnyH_take (i := 13) (oi := ⟨some 18, _, _, _, _, _⟩) (v := ?_) rfl (by kernel_rfl) (by kernel_rfl) (by kernel_rfl) (fun _ _ _ h => h) (Or.inl ⟨by rfl, ?_⟩) (by assumption) ?_
  rotate_left
  · intro wq hSw; go_simp; (try with_reducible rfl)
  try go_frame
  refine wpAnyH_take (i := 14) (oi := ⟨some 4, _, _, _, _, _⟩) (v := ?_) rfl (by kernel_rfl) (by kernel_rfl) (by kernel_rfl) (fun _ _ _ h => h) (Or.inl ⟨by rfl, ?_⟩) (by assumption) ?_
  rotate_left
  · intro wq hSw; go_simp; (try with_reducible rfl)
  try go_frame
  refine wpAnyH_done (by kernel_rfl) ?_ _
  have hHeld := hHeld1
  obtain ⟨⟨kz0, kc0, kf0⟩, ⟨kz1, kc1, kf1⟩, ⟨kz2, kc2, kf2⟩, ⟨kz3, kc3, kf3⟩, ⟨kz4, kc4, kf4⟩, ⟨kz5, kc5, kf5⟩, ⟨kz6, kc6, kf6⟩, ⟨kz7, kc7, kf7⟩, _⟩ := hHeld.2
  all_goals
    go_wp2_with fail
    go_ret
    exact ⟨rfl, hHeld.1⟩
set_option maxHeartbeats 2000000 in
theorem thr1_any (a r n d : Int) (l : List Bd) (hk : okD l = true) (v : Value) (Bx : Nat) (w : World) (hx : Cells [(Bx, 0, .int .i64 a), (Bx, 1, .int .i64 r), (Bx, 2, .int .i64 n), (Bx, 3, .int .i64 d)] w) (h : ReadsD w v l) :
    Calls Tryz.prog 33 #[v, .pointer (some ⟨Bx, 0, none⟩)] w (Ret w (.tuple #[.bool (thrB a r n d l), .int .i64 0])) := by
  have hne := okD_ne hk
  have hl := (okD_facts hk).2.1
  have hl1 := (okD_facts hk).1
  have hR := (okD_facts hk).2.2
  have hr := h
  obtain ⟨A, c, rfl, _, hkk⟩ := h
  obtain ⟨bb, off, rfl⟩ := readsD_some hr hne
  obtain ⟨b0, m, hbm⟩ := List.exists_cons_of_ne_nil hne
  have hf : l[0]? = some b0 := by rw [hbm]; rfl
  obtain ⟨_, _, e1, hbw, hp0, _⟩ := hkk 0 _ hf
  cases e1
  simp only [Nat.zero_mul, Nat.add_zero] at hp0
  have e : thrB a r n d l = !(l.any fun b => !wnB a r n d (b.t - b0.t) b.lo b.hi) := by
    rw [goes_not, Bool.not_not, thrB, hk, Bool.true_and, hbm]
    rfl
  rw [e]
  have h0 := hR b0 (List.mem_of_getElem? hf)
  have CN := Lib.hid (fun W (hb : Below w.heap.size w W) (hB : TBase a r n d bb off c l.length b0.t Bx w.heap.size W) => contains_any (fun b => !wnB a r n d (b.t - b0.t) b.lo b.hi) 34 #[.pointer (some ⟨Bx, 0, none⟩), .pointer (some ⟨w.heap.size, 0, none⟩)] (enters_of Tryz.func34 (by kernel_rfl) rfl) l (by omega) (.slice (some ⟨bb, off, none⟩) l.length c) W (hr.below hb)
    (fun b hb' W' hbW => by obtain ⟨t, lo, hi⟩ := b; exact beside_any a r n d bb off c l.length b0.t (by omega) ⟨h0.1, h0.2.1⟩ t lo hi (hR _ hb') Bx w.heap.size W' (hB.next hbW)))
  have HTB : Hid (TBase a r n d bb off c l.length b0.t Bx w.heap.size (w.alloc (.cells #[.slice (some ⟨bb, off, none⟩) l.length c] 22))) :=
    Lib.hid ⟨hx.next (below_alloc w _), Boxed.new w _ _, Nat.lt_of_lt_of_le hbw (below_alloc w _).size, ((below_alloc w _).cell (p := ⟨bb, off, none⟩) hbw).trans hp0⟩
  have hmf := makes_func
  clear hx hr hkk hp0 hf hbm e hk hne hl hl1 hR h0 hbw
  generalize (l.any fun b => !wnB a r n d (b.t - b0.t) b.lo b.hi) = R at *
  generalize b0.t = t0 at *
  generalize l.length = k at *
  go_enter Tryz.func33, Tryz.ntmps33
  go_wp2_with fail
  refine (CN.out _ (below_alloc w _) HTB.out).mono ?_
  rintro en w1 ⟨rfl, hb1⟩
  go_wp2_with fail
  go_returns
  exact ⟨rfl, under (below_alloc w _) hb1⟩
set_option maxHeartbeats 1000000 in
theorem ofB_any (a r n d : Int) (l : List Bd) (hl : l.length ≤ 9223372036854775807) (Bx : Nat) (v : Value) (w : World) (hx : Cells [(Bx, 0, .int .i64 a), (Bx, 1, .int .i64 r), (Bx, 2, .int .i64 n), (Bx, 3, .int .i64 d)] w) (h : ReadsD w v l) :
    Calls Tryz.prog 32 #[v, .func (.func 33) #[] #[.pointer (some ⟨Bx, 0, none⟩)]] w (Ret w (.tuple #[.bool (thrB a r n d l), .int .i64 (codeS l)])) := by
  have hr := h
  obtain ⟨A, c, rfl, _, _⟩ := h
  have BC := Lib.hid (bcheck_any l hl _ w hr)
  cases gk : okD l
  · rw [gk] at BC
    have E : thrB a r n d l = false ∧ codeS l = 180 := ⟨by simp [thrB, gk], by simp [codeS, gk]⟩
    rw [E.1, E.2]
    clear gk hr hx E
    simp only [Bool.false_eq_true, if_false] at BC
    go_enter Tryz.func32, Tryz.ntmps32
    go_wp2_with fail
    refine BC.out.mono ?_
    rintro en w1 ⟨rfl, hb1⟩
    go_wp2_with fail
    go_returns
    exact ⟨rfl, hb1⟩
  · have HF := Lib.hid (fun W (hb : Below w.heap.size w W) => thr1_any a r n d l gk _ Bx W (hx.next hb) (hr.below hb))
    rw [gk] at BC
    have E : codeS l = 0 := by simp [codeS, gk]
    rw [E]
    simp only [if_true] at BC
    clear gk hr hx E
    generalize thrB a r n d l = R at *
    go_enter Tryz.func32, Tryz.ntmps32
    go_wp2_with fail
    refine BC.out.mono ?_
    rintro en w1 ⟨rfl, hb1⟩
    have HF1 := Lib.hid (HF.out w1 hb1)
    go_wp2_with fail
    refine HF1.out.mono ?_
    rintro en w2 ⟨rfl, hb2⟩
    go_wp2_with fail
    go_returns
    exact ⟨rfl, under hb1 hb2⟩
set_option maxHeartbeats 1000000 in
theorem thr_any (a r n d : Int) (l : List Bd) (hl : l.length ≤ 9223372036854775807) (v : Value) (w : World) (h : ReadsD w v l) :
    Calls Tryz.prog 15 #[v, lnV a r n d] w (Ret w (.bool (thrB a r n d l))) := by
  have hb := below_alloc w (.cells #[.int .i64 a, .int .i64 r, .int .i64 n, .int .i64 d] 37)
  have OF := Lib.hid (ofB_any a r n d l hl w.heap.size v _ (by simp [Cells, go_sem]) (h.below hb))
  have hmf := makes_func
  obtain ⟨A, c, rfl, _, _⟩ := h
  have HB := Lib.hid hb
  clear hb
  generalize thrB a r n d l = R at *
  generalize codeS l = e at *
  go_enter Tryz.func15, Tryz.ntmps15
  go_wp2_with fail
  refine OF.out.mono ?_
  rintro en w1 ⟨rfl, hb1⟩
  go_wp2_with fail
  go_returns
  exact ⟨rfl, under HB.out hb1⟩
end Go.Proofs.YtoephkglpbophaaGreat.P10
